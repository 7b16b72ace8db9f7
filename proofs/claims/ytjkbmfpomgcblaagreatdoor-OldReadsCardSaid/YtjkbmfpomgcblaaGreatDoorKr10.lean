import Derived.Test.YtjkbmfpomgcblaaGreatDoorKr09
namespace Go.Proofs.YtjkbmfpomgcblaaGreatDoor
open Go.RowKit
theorem dupG_hit {l:List ByteArray} {k:Nat} {s:ByteArray} (h:l[k]? = some s) (hs:s∈l.take k):dupG (l.take k) (l.drop k) k=some k:=by
 obtain ⟨hk,e⟩:=List.getElem?_eq_some_iff.1 h
 rw [List.drop_eq_getElem_cons hk,e,dupG,if_pos hs]
theorem dupG_miss {l:List ByteArray} {k:Nat} {s:ByteArray} (h:l[k]? = some s) (hs:s ∉ l.take k):dupG (l.take k) (l.drop k) k=dupG (l.take (k + 1)) (l.drop (k + 1)) (k + 1):=by
 obtain ⟨hk,e⟩:=List.getElem?_eq_some_iff.1 h
 rw [List.drop_eq_getElem_cons hk,e,dupG,if_neg hs]
 congr 1
 rw [←e,List.take_append_getElem hk]
def dupR (l:List ByteArray):Nat×Int:=match dupG [] l 0 with | some i=>(9,(i:Int)) | none=>(0,-1)
set_option maxRecDepth 100000 in
set_option maxHeartbeats 4000000 in
theorem ktwice_any (v:Value) (l:List ByteArray) (w:World) (hv:IsTexts w v l) (hl:l.length≤1000000) (hs:∀ s∈l,s.size≤140737488351232) :
   Calls Tryz.prog 214 #[v] w (RightIs w (dupR l)):=by
 obtain ⟨a1,c1,rfl,_,f1⟩:=hv
 have F1:=Lib.hid f1
 have HS:=Lib.hid hs
 obtain ⟨n,hn⟩:∃ n,n=l.length:=⟨_,rfl⟩
 rw [←hn] at hl ⊢
 have HN:=Lib.hid hn
 clear f1 hs hn
 have hmm:=@run_makeMap Tryz.prog
 go_enter Tryz.func214,Tryz.ntmps214
 go_wp2
 go_loopw [9] (fun i wr=>∃ k:Nat,k≤n∧i=.int .i64 k∧dupG [] l 0=dupG (l.take k) (l.drop k) k∧ownsSet wr w.heap.size k (l.take k)∧Below w.heap.size w wr) (fun i _=>n - (intOf i).toNat)
 case atStart=>exact ⟨0,Nat.zero_le _,rfl,rfl,ownsSet_made _,(Below.refl _ _).alloc (Nat.le_refl _) _⟩
 case round =>
   obtain ⟨k,hk,rfl,hd,hmap,hbel⟩:=hrel
   have HD:=Lib.hid hd
   have HM:=Lib.hid hmap
   have HB:=Lib.hid hbel
   clear hd hmap hbel
   by_cases hlt:k < n
   · obtain ⟨s, hs⟩ : ∃ s, l[k]? = some s := ⟨l[k]'(by have := HN.out; omega), List.getElem?_eq_getElem _⟩
     obtain ⟨b1,o1,rfl,hb1,p0⟩:=F1.out k s hs
     have q0:=(HB.out.cell (p:=⟨b1,o1 + k,none⟩) hb1).trans p0
     have HSZ:Hid (s.size≤140737488351232):=Lib.hid (HS.out s (List.mem_of_getElem? hs))
     have hsz:s.size≤maxLen:=by have:=HSZ.out;unfold maxLen;omega
     by_cases hin:s∈l.take k
     · have HR:Hid (dupR l=(9,(k:Int))):=Lib.hid (show dupR l=_ by unfold dupR;rw [HD.out,dupG_hit hs hin])
       clear p0 hs
       go_wp2_with (at_lookup;refine wpList_set_look rfl _ _ rfl w.heap.size k (l.take k) rfl HM.out s rfl hsz true (by simpa using hin) ?_)
       go_ret
       rw [HR.out]
       exact ⟨_,rfl,atIs.new _ 9 _ (by decide),HB.out.alloc HB.out.size _⟩
     · have HD2:=Lib.hid (HD.out.trans (dupG_miss hs hin))
       have HTK:Hid (l.take k ++ [s]=l.take (k + 1)):=Lib.hid (show _=_ by obtain ⟨hk2,e⟩:=List.getElem?_eq_some_iff.1 hs;rw [←e,List.take_append_getElem hk2])
       clear p0 hs
       go_wp2_with (first
         | (at_lookup;refine wpList_set_look rfl _ _ rfl w.heap.size k (l.take k) rfl HM.out s rfl hsz false (by simpa using hin) ?_)
         | (at_mapUpdate;refine wpList_set_put rfl _ _ _ rfl w.heap.size k (l.take k) rfl HM.out (by unfold maxLen;omega) s rfl rfl hsz ?_;intro w1 hm1 hg1))
       have HB1:Hid (Below w.heap.size w w1):=Lib.hid (HB.out.grown hg1 HB.out.size (fun g hg=>by cases hg;exact Nat.le_refl _))
       rw [HTK.out] at hm1
       have HM1:=Lib.hid hm1
       clear hm1 hg1
       go_roundw
       case rel=>exact ⟨k + 1,by omega,by go_num,HD2.out,HM1.out,HB1.out⟩
       case measure=>simp [intOf];omega
   · have HR:Hid (dupR l=(0,-1)):=Lib.hid (show dupR l=_ by unfold dupR;rw [HD.out,List.drop_eq_nil_of_le (by have:=HN.out;omega)];rfl)
     go_wp2
     go_ret
     rw [HR.out]
     exact ⟨_,rfl,.inl ⟨rfl,rfl⟩,HB.out⟩
theorem ordG_range {K told k:Nat} {l:List Int} {n:Int} (h:l[k]? = some n) (hn:n < 0∨(K:Int)≤n):ordG K told (l.drop k) k=(2,(k:Int)):=by
 obtain ⟨hk,e⟩:=List.getElem?_eq_some_iff.1 h
 rw [List.drop_eq_getElem_cons hk,e,ordG,if_pos hn]
theorem ordG_false {K told k:Nat} {l:List Int} {n:Int} (h:l[k]? = some n) (hn:¬ (n < 0∨(K:Int)≤n)) (ht:(told:Int) < n):ordG K told (l.drop k) k=(13,(k:Int)):=by
 obtain ⟨hk,e⟩:=List.getElem?_eq_some_iff.1 h
 rw [List.drop_eq_getElem_cons hk,e,ordG,if_neg hn,if_pos ht]
theorem ordG_old {K told k:Nat} {l:List Int} {n:Int} (h:l[k]? = some n) (hn:¬ (n < 0∨(K:Int)≤n)) (ht:n < (told:Int)):ordG K told (l.drop k) k=ordG K told (l.drop (k + 1)) (k + 1):=by
 obtain ⟨hk,e⟩:=List.getElem?_eq_some_iff.1 h
 rw [List.drop_eq_getElem_cons hk,e,ordG,if_neg hn,if_neg (by omega),if_neg (by omega)]
theorem ordG_new {K told k:Nat} {l:List Int} {n:Int} (h:l[k]? = some n) (hn:¬ (n < 0∨(K:Int)≤n)) (ht:n=(told:Int)):ordG K told (l.drop k) k=ordG K (told + 1) (l.drop (k + 1)) (k + 1):=by
 obtain ⟨hk,e⟩:=List.getElem?_eq_some_iff.1 h
 rw [List.drop_eq_getElem_cons hk,e,ordG,if_neg hn,if_neg (by omega),if_pos ht]
set_option maxRecDepth 100000 in
set_option maxHeartbeats 4000000 in
theorem korder_any (v:Value) (l:List Int) (K:Nat) (w:World) (hv:IsNums w v l) (hl:l.length≤1000000) (hK:K≤1000000) :
   Calls Tryz.prog 215 #[v,.int .i64 (K:Int)] w (VRightIs w (ordG K 0 l 0)):=by
 obtain ⟨a1,c1,rfl,_,f1⟩:=hv
 have F1:=Lib.hid f1
 obtain ⟨n,hn⟩:∃ n,n=l.length:=⟨_,rfl⟩
 rw [←hn] at hl ⊢
 have HN:=Lib.hid hn
 clear f1 hn
 go_enter Tryz.func215,Tryz.ntmps215
 go_wp2
 go_loopw [5,10] (fun t i wr=>∃ k told:Nat,k≤n∧told≤k∧i=.int .i64 k∧t=.int .i64 told∧ordG K 0 l 0=ordG K told (l.drop k) k∧Below w.heap.size w wr) (fun _ i _=>n - (intOf i).toNat)
 case atStart=>exact ⟨0,0,Nat.zero_le _,Nat.le_refl _,rfl,rfl,rfl,Below.refl _ _⟩
 case round =>
   obtain ⟨k,told,hk,htk,rfl,rfl,hd,hbel⟩:=hrel
   have HD:=Lib.hid hd
   have HB:=Lib.hid hbel
   clear hd hbel
   by_cases hlt:k < n
   · obtain ⟨z, hz⟩ : ∃ z, l[k]? = some z := ⟨l[k]'(by have := HN.out; omega), List.getElem?_eq_getElem _⟩
     obtain ⟨b1,o1,rfl,hb1,p0⟩:=F1.out k z hz
     have q0:=(HB.out.cell (p:=⟨b1,o1 + k,none⟩) hb1).trans p0
     by_cases hr:z < 0∨(K:Int)≤z
     · have HR:=Lib.hid (HD.out.trans (ordG_range hz hr))
       clear p0 hz
       by_cases h0:z < 0
       · go_wp2
         go_ret
         rw [HR.out]
         exact ⟨_,rfl,.inl (atIs.new _ 2 _ (by decide)),HB.out.alloc HB.out.size _⟩
       · have h1:(K:Int)≤z:=by omega
         go_wp2
         go_ret
         rw [HR.out]
         exact ⟨_,rfl,.inl (atIs.new _ 2 _ (by decide)),HB.out.alloc HB.out.size _⟩
     · have h0:¬ z < 0:=by omega
       have h1:¬ (K:Int)≤z:=by omega
       by_cases hf:(told:Int) < z
       · have HR:=Lib.hid (HD.out.trans (ordG_false hz hr hf))
         clear p0 hz hr
         go_wp2
         go_ret
         rw [HR.out]
         exact ⟨_,rfl,.inl (atIs.new _ 13 _ (by decide)),HB.out.alloc HB.out.size _⟩
       · by_cases he:z=(told:Int)
         · have HD2:=Lib.hid (HD.out.trans (ordG_new hz hr he))
           clear p0 hz hr
           subst he
           go_wp2
           go_roundw
           case rel=>exact ⟨k + 1,told + 1,by omega,by omega,by go_num,by go_num,HD2.out,HB.out⟩
           case measure=>simp [intOf];omega
         · have HD2:=Lib.hid (HD.out.trans (ordG_old hz hr (by omega)))
           have hb:(z == (told:Int))=false:=by simpa using he
           clear p0 hz hr
           go_wp2
           go_roundw
           case rel=>exact ⟨k + 1,told,by omega,by omega,by go_num,rfl,HD2.out,HB.out⟩
           case measure=>simp [intOf];omega
   · have HE:Hid (ordG K 0 l 0=if told < K then (8,-1) else (0,-1)):=Lib.hid (show _=_ by rw [HD.out,List.drop_eq_nil_of_le (by have:=HN.out;omega)];rfl)
     by_cases ht:told < K
     · have HR:Hid (ordG K 0 l 0=(8,-1)):=Lib.hid (show _=_ by rw [HE.out,if_pos ht])
       go_wp2
       go_ret
       rw [HR.out]
       exact ⟨_,rfl,.inr ⟨by decide,rfl,rfl⟩,HB.out⟩
     · have HR:Hid (ordG K 0 l 0=(0,-1)):=Lib.hid (show _=_ by rw [HE.out,if_neg ht])
       go_wp2
       go_ret
       rw [HR.out]
       exact ⟨_,rfl,.inl (.inl ⟨rfl,rfl⟩),HB.out⟩
end Go.Proofs.YtjkbmfpomgcblaaGreatDoor
