import Derived.Test.YtjkbmfpomgcblaaGreatDoorKp13
namespace Go.Proofs.YtjkbmfpomgcblaaGreatDoor
open Go.RowKit
theorem dupG_hit {l:List ByteArray} {k:Nat} {s:ByteArray} (h:l[k]? = some s) (hs:s∈l.take k):dupG (l.take k) (l.drop k) k=some k:=by
 obtain ⟨hk,e⟩:=List.getElem?_eq_some_iff.1 h
 rw [List.drop_eq_getElem_cons hk,e,dupG,if_pos hs]
theorem dupG_miss {l:List ByteArray} {k:Nat} {s:ByteArray} (h:l[k]? = some s) (hs:s ∉ l.take k):dupG (l.take k) (l.drop k) k=dupG (l.take (k + 1)) (l.drop (k + 1)) (k + 1):=by
 obtain ⟨hk,e⟩:=List.getElem?_eq_some_iff.1 h
 rw [List.drop_eq_getElem_cons hk,e,dupG,if_neg hs]
 congr 1
 rw [←e,List.take_append_getElem hk]
def dupR (l:List ByteArray):Nat×Int:=match dupG [] l 0 with | some i=>(9,(i:Int)) | none=>(0,-1)
set_option maxRecDepth 100000 in
set_option maxHeartbeats 4000000 in
theorem ktwice_any (v:Value) (l:List ByteArray) (w:World) (hv:IsTexts w v l) (hl:l.length≤1000000) (hs:∀ s∈l,s.size≤140737488351232) :
   Calls Tryz.prog 214 #[v] w (RightIs w (dupR l)):=by
 obtain ⟨a1,c1,rfl,_,f1⟩:=hv
 have F1:=Lib.hid f1
 have HS:=Lib.hid hs
 obtain ⟨n,hn⟩:∃ n,n=l.length:=⟨_,rfl⟩
 rw [←hn] at hl ⊢
 have HN:=Lib.hid hn
 clear f1 hs hn
 have hmm:=@run_makeMap Tryz.prog
 go_enter Tryz.func214,Tryz.ntmps214
 go_wp2
 go_loopw [9] (fun i wr=>∃ k:Nat,k≤n∧i=.int .i64 k∧dupG [] l 0=dupG (l.take k) (l.drop k) k∧ownsSet wr w.heap.size k (l.take k)∧Below w.heap.size w wr) (fun i _=>n - (intOf i).toNat)
 case atStart=>exact ⟨0,Nat.zero_le _,rfl,rfl,ownsSet_made _,(Below.refl _ _).alloc (Nat.le_refl _) _⟩
 case round =>
   obtain ⟨k,hk,rfl,hd,hmap,hbel⟩:=hrel
   have HD:=Lib.hid hd
   have HM:=Lib.hid hmap
   have HB:=Lib.hid hbel
   clear hd hmap hbel
   by_cases hlt:k < n
   · obtain ⟨s, hs⟩ : ∃ s, l[k]? = some s := ⟨l[k]'(by have := HN.out; omega), List.getElem?_eq_getElem _⟩
     obtain ⟨b1,o1,rfl,hb1,p0⟩:=F1.out k s hs
     have q0:=(HB.out.cell (p:=⟨b1,o1 + k,none⟩) hb1).trans p0
     have HSZ:Hid (s.size≤140737488351232):=Lib.hid (HS.out s (List.mem_of_getElem? hs))
     have hsz:s.size≤maxLen:=by have:=HSZ.out;unfold maxLen;omega
     by_cases hin:s∈l.take k
     · have HR:Hid (dupR l=(9,(k:Int))):=Lib.hid (show dupR l=_ by unfold dupR;rw [HD.out,dupG_hit hs hin])
       clear p0 hs
       go_wp2_with (at_lookup;refine wpList_set_look rfl _ _ rfl w.heap.size k (l.take k) rfl HM.out s rfl hsz true (by simpa using hin) ?_)
       go_ret
       rw [HR.out]
       exact ⟨_,rfl,atIs.new _ 9 _ (by decide),HB.out.alloc HB.out.size _⟩
     · have HD2:=Lib.hid (HD.out.trans (dupG_miss hs hin))
       have HTK:Hid (l.take k ++ [s]=l.take (k + 1)):=Lib.hid (show _=_ by obtain ⟨hk2,e⟩:=List.getElem?_eq_some_iff.1 hs;rw [←e,List.take_append_getElem hk2])
       clear p0 hs
       go_wp2_with (first
         | (at_lookup;refine wpList_set_look rfl _ _ rfl w.heap.size k (l.take k) rfl HM.out s rfl hsz false (by simpa using hin) ?_)
         | (at_mapUpdate;refine wpList_set_put rfl _ _ _ rfl w.heap.size k (l.take k) rfl HM.out (by unfold maxLen;omega) s rfl rfl hsz ?_;intro w1 hm1 hg1))
       have HB1:Hid (Below w.heap.size w w1):=Lib.hid (HB.out.grown hg1 HB.out.size (fun g hg=>by cases hg;exact Nat.le_refl _))
       rw [HTK.out] at hm1
       have HM1:=Lib.hid hm1
       clear hm1 hg1
       go_roundw
       case rel=>exact ⟨k + 1,by omega,by go_num,HD2.out,HM1.out,HB1.out⟩
       case measure=>simp [intOf];omega
   · have HR:Hid (dupR l=(0,-1)):=Lib.hid (show dupR l=_ by unfold dupR;rw [HD.out,List.drop_eq_nil_of_le (by have:=HN.out;omega)];rfl)
     go_wp2
     go_ret
     rw [HR.out]
     exact ⟨_,rfl,.inl ⟨rfl,rfl⟩,HB.out⟩
theorem ordG_range {K told k:Nat} {l:List Int} {n:Int} (h:l[k]? = some n) (hn:n < 0∨(K:Int)≤n):ordG K told (l.drop k) k=(2,(k:Int)):=by
 obtain ⟨hk,e⟩:=List.getElem?_eq_some_iff.1 h
 rw [List.drop_eq_getElem_cons hk,e,ordG,if_pos hn]
theorem ordG_false {K told k:Nat} {l:List Int} {n:Int} (h:l[k]? = some n) (hn:¬ (n < 0∨(K:Int)≤n)) (ht:(told:Int) < n):ordG K told (l.drop k) k=(13,(k:Int)):=by
 obtain ⟨hk,e⟩:=List.getElem?_eq_some_iff.1 h
 rw [List.drop_eq_getElem_cons hk,e,ordG,if_neg hn,if_pos ht]
theorem ordG_old {K told k:Nat} {l:List Int} {n:Int} (h:l[k]? = some n) (hn:¬ (n < 0∨(K:Int)≤n)) (ht:n < (told:Int)):ordG K told (l.drop k) k=ordG K told (l.drop (k + 1)) (k + 1):=by
 obtain ⟨hk,e⟩:=List.getElem?_eq_some_iff.1 h
 rw [List.drop_eq_getElem_cons hk,e,ordG,if_neg hn,if_neg (by omega),if_neg (by omega)]
theorem ordG_new {K told k:Nat} {l:List Int} {n:Int} (h:l[k]? = some n) (hn:¬ (n < 0∨(K:Int)≤n)) (ht:n=(told:Int)):ordG K told (l.drop k) k=ordG K (told + 1) (l.drop (k + 1)) (k + 1):=by
 obtain ⟨hk,e⟩:=List.getElem?_eq_some_iff.1 h
 rw [List.drop_eq_getElem_cons hk,e,ordG,if_neg hn,if_neg (by omega),if_pos ht]
set_option maxRecDepth 100000 in
set_option maxHeartbeats 4000000 in
theorem korder_any (v:Value) (l:List Int) (K:Nat) (w:World) (hv:IsNums w v l) (hl:l.length≤1000000) (hK:K≤1000000) :
   Calls Tryz.prog 215 #[v,.int .i64 (K:Int)] w (VRightIs w (ordG K 0 l 0)):=by
 obtain ⟨a1,c1,rfl,_,f1⟩:=hv
 have F1:=Lib.hid f1
 obtain ⟨n,hn⟩:∃ n,n=l.length:=⟨_,rfl⟩
 rw [←hn] at hl ⊢
 have HN:=Lib.hid hn
 clear f1 hn
 go_enter Tryz.func215,Tryz.ntmps215
 go_wp2
 go_loopw [5,10] (fun t i wr=>∃ k told:Nat,k≤n∧told≤k∧i=.int .i64 k∧t=.int .i64 told∧ordG K 0 l 0=ordG K told (l.drop k) k∧Below w.heap.size w wr) (fun _ i _=>n - (intOf i).toNat)
 case atStart=>exact ⟨0,0,Nat.zero_le _,Nat.le_refl _,rfl,rfl,rfl,Below.refl _ _⟩
 case round =>
   obtain ⟨k,told,hk,htk,rfl,rfl,hd,hbel⟩:=hrel
   have HD:=Lib.hid hd
   have HB:=Lib.hid hbel
   clear hd hbel
   by_cases hlt:k < n
   · obtain ⟨z, hz⟩ : ∃ z, l[k]? = some z := ⟨l[k]'(by have := HN.out; omega), List.getElem?_eq_getElem _⟩
     obtain ⟨b1,o1,rfl,hb1,p0⟩:=F1.out k z hz
     have q0:=(HB.out.cell (p:=⟨b1,o1 + k,none⟩) hb1).trans p0
     by_cases hr:z < 0∨(K:Int)≤z
     · have HR:=Lib.hid (HD.out.trans (ordG_range hz hr))
       clear p0 hz
       by_cases h0:z < 0
       · go_wp2
         go_ret
         rw [HR.out]
         exact ⟨_,rfl,.inl (atIs.new _ 2 _ (by decide)),HB.out.alloc HB.out.size _⟩
       · have h1:(K:Int)≤z:=by omega
         go_wp2
         go_ret
         rw [HR.out]
         exact ⟨_,rfl,.inl (atIs.new _ 2 _ (by decide)),HB.out.alloc HB.out.size _⟩
     · have h0:¬ z < 0:=by omega
       have h1:¬ (K:Int)≤z:=by omega
       by_cases hf:(told:Int) < z
       · have HR:=Lib.hid (HD.out.trans (ordG_false hz hr hf))
         clear p0 hz hr
         go_wp2
         go_ret
         rw [HR.out]
         exact ⟨_,rfl,.inl (atIs.new _ 13 _ (by decide)),HB.out.alloc HB.out.size _⟩
       · by_cases he:z=(told:Int)
         · have HD2:=Lib.hid (HD.out.trans (ordG_new hz hr he))
           clear p0 hz hr
           subst he
           go_wp2
           go_roundw
           case rel=>exact ⟨k + 1,told + 1,by omega,by omega,by go_num,by go_num,HD2.out,HB.out⟩
           case measure=>simp [intOf];omega
         · have HD2:=Lib.hid (HD.out.trans (ordG_old hz hr (by omega)))
           have hb:(z == (told:Int))=false:=by simpa using he
           clear p0 hz hr
           go_wp2
           go_roundw
           case rel=>exact ⟨k + 1,told,by omega,by omega,by go_num,rfl,HD2.out,HB.out⟩
           case measure=>simp [intOf];omega
   · have HE:Hid (ordG K 0 l 0=if told < K then (8,-1) else (0,-1)):=Lib.hid (show _=_ by rw [HD.out,List.drop_eq_nil_of_le (by have:=HN.out;omega)];rfl)
     by_cases ht:told < K
     · have HR:Hid (ordG K 0 l 0=(8,-1)):=Lib.hid (show _=_ by rw [HE.out,if_pos ht])
       go_wp2
       go_ret
       rw [HR.out]
       exact ⟨_,rfl,.inr ⟨by decide,rfl,rfl⟩,HB.out⟩
     · have HR:Hid (ordG K 0 l 0=(0,-1)):=Lib.hid (show _=_ by rw [HE.out,if_neg ht])
       go_wp2
       go_ret
       rw [HR.out]
       exact ⟨_,rfl,.inl (.inl ⟨rfl,rfl⟩),HB.out⟩
end Go.Proofs.YtjkbmfpomgcblaaGreatDoor
namespace Go.Proofs.YtjkbmfpomgcblaaGreatDoor
open Go.RowKit
theorem bldLiesW:liesAt Tryz.prog Tryz.prog.depth 123 (2 / Tryz.prog.cellsOf 123) 0 64 1=true:=by kernel_rfl
def isBldW (w:World) (B b:Nat) (l:List UInt8):Prop:=Lib.IsBuilder 123 5 B b (Lib.byteCells l) w
theorem wbld_new (w:World) (B:Nat) (h:B≤w.heap.size):isBldW (w.alloc (.cells #[.pointer none,.slice none 0 0] 123)) B w.heap.size [] :=
 .inl ⟨h,.slice none 0 0,heap_alloc_new w _,World.ownsRow_nil _ _ _ _,by simp [Value.ownBlock]⟩
theorem isBldW.below {w w':World} {B b:Nat} {l:List UInt8} (h:isBldW w B b l) (hb:Below w.heap.size w w'):isBldW w' B b l:=by
 have hone:∀ {p:Value},Lib.BuilderAt 123 5 B b p (Lib.byteCells l) w→Lib.BuilderAt 123 5 B b p (Lib.byteCells l) w':=by
   intro p h
   have hlt:=h.lt
   obtain ⟨hB,v,hbk,hown,hne⟩:=h
   refine ⟨hB,v,(hb.block b hlt).trans hbk,?_,hne⟩
   refine World.ownsRow.kept hown (row:=none) ⟨hb.os,hb.tape,hb.output,hb.size,fun k hk _=>hb.block k hk⟩ ?_
   cases hv:v.ownBlock with
   | none=>exact .inl rfl
   | some g=>exact .inr (by simp)
 rcases h with h | h
 · exact .inl (hone h)
 · exact .inr (hone h)
theorem isBldW.lt {w:World} {B b:Nat} {l:List UInt8} (h:isBldW w B b l):B≤b∧b < w.heap.size:=by
 rcases h with h | h
 · exact ⟨h.1,h.lt⟩
 · exact ⟨h.1,h.lt⟩
theorem isBldW.alloc {w:World} {B b:Nat} {l:List UInt8} (h:isBldW w B b l) (o:Obj):isBldW (w.alloc o) B b l:=h.below ((Below.refl _ _).alloc (Nat.le_refl _) _)
set_option maxRecDepth 100000 in
set_option maxHeartbeats 1000000 in
theorem wcopy_fresh (b:Nat) (w:World) (h0:w.cell? ⟨b,0,none⟩=some (.pointer none)) (hsh:w.shape? b=some (123,2)) (hfz:w.frozen? ⟨b,0,none⟩=false) :
   Calls Tryz.prog 92 #[.pointer (some ⟨b,0,none⟩)] w fun e w'=>e=.returned (.tuple #[])∧w'=w.setCell ⟨b,0,none⟩ (.pointer (some ⟨b,0,none⟩)):=by
 obtain ⟨j,hj,hjs⟩:=Option.map_eq_some_iff.1 bldSize
 go_enter Tryz.func92,Tryz.ntmps92
 go_wp2
 rw [Lib.run_to_unsafe w ⟨b,0,none⟩ Tryz.underlying62 Tryz.underlying170 hj (by rw [hjs];decide) hsh (Nat.zero_lt_succ 1)]
 simp only [Result.andThen]
 rw [Oper.upon_value]
 go_wp2
 rw [run_callFunc_extern Tryz.func148 (by kernel_rfl) (by kernel_rfl) (by kernel_rfl) (e:=Extern.AbiNoEscape.same) (by kernel_rfl)]
 rw [Lib.run_noEscape]
 simp only [Result.andThen]
 rw [Oper.upon_value]
 go_wp2
 rw [Lib.run_from_unsafe w ⟨b,0,none⟩ Tryz.underlying170 Tryz.underlying62 hj hsh bldLiesW]
 simp only [Result.andThen]
 rw [Oper.upon_value]
 go_wp2
 go_end0
 exact ⟨rfl,rfl⟩
theorem wcopy_any (B b:Nat) (l:List UInt8) (w:World) (h:isBldW w B b l) :
   Calls Tryz.prog 92 #[.pointer (some ⟨b,0,none⟩)] w fun e w'=>e=.returned (.tuple #[])∧Lib.BuilderAt 123 5 B b (.pointer (some ⟨b,0,none⟩)) (Lib.byteCells l) w'∧Below B w w'∧NonB b w w'∧w'.heap.size=w.heap.size:=by
 rcases h with h | h
 · refine (wcopy_fresh b w h.cell0 h.shape h.frozen0).mono ?_
   rintro e w' ⟨rfl,rfl⟩
   exact ⟨rfl,h.used _,(Below.refl B w).setCell (p:=⟨b,0,none⟩) h.1 _,fun k _ hk _=>heap_setCell_other _ _ _ _ (fun e=>hk e),by simp⟩
 · refine (copy_used b w h.cell0).mono ?_
   rintro e w' ⟨rfl,rfl⟩
   exact ⟨rfl,h,Below.refl B _,fun k _ _ _=>rfl,rfl⟩
set_option maxRecDepth 100000 in
set_option maxHeartbeats 2000000 in
theorem wbld_write (B b:Nat) (l:List UInt8) (s:ByteArray) (w:World) (h:isBldW w B b l) (hlen:l.length + s.size≤140737488355328) (hBw:B≤w.heap.size) :
   Calls Tryz.prog 44 #[.pointer (some ⟨b,0,none⟩),.string s] w fun e w'=>e=.returned (.tuple #[.int .i64 s.size,.nilIface])∧isBldW w' B b (l ++ s.data.toList)∧Below B w w'∧NonB b w w':=by
 obtain ⟨i0,hi,hz0,hz1,hz2⟩:=info_parts info_u8
 have hbl:(Lib.byteCells l).length=l.length:=by simp [Lib.byteCells]
 go_enter Tryz.func44,Tryz.ntmps44
 go_wp2_with fail
 refine (wcopy_any B b l _ h).mono ?_
 rintro e w1 ⟨rfl,h1,hb1,hn1,hs1⟩
 have HN1:=Lib.hid hn1
 have HS1:=Lib.hid hs1
 obtain ⟨hB,v,hbk,hown,hne⟩:=h1
 have c0:w1.cell? ⟨b,0,none⟩=some (.pointer (some ⟨b,0,none⟩)):=by rw [Lib.cell_of_heap hbk];rfl
 have c1:w1.cell? ⟨b,1,none⟩=some v:=by rw [Lib.cell_of_heap hbk];rfl
 clear hn1 hs1
 go_wp2_with (at_builtin;refine Lib.wpList_append_own_string _ rfl _ _ 60 9 rfl B 5 i0 Tryz.underlying60 Tryz.underlying9 hi hz0 hz1 hz2 _ _ _ rfl hown s rfl ?c3 ?c4 ?c5 ?_)
 case c3=>rw [hbl];unfold maxLen;omega
 case c4=>rw [hbl];omega
 case c5=>have:=hb1.size;omega
 intro v' w2 hown' hgrow _
 have hlt:b < w1.heap.size:=by
   rcases Nat.lt_or_ge b w1.heap.size with h' | h'
   · exact h'
   · simp [Array.getElem?_eq_none h'] at hbk
 have hb2:w2.heap[b]? = some (.cells #[.pointer (some ⟨b,0,none⟩),v] 123 (0,0)):=by
   rw [hgrow.block b hlt (fun e=>hne e.symm)]
   exact hbk
 have d0:w2.cell? ⟨b,0,none⟩=some (.pointer (some ⟨b,0,none⟩)):=by rw [Lib.cell_of_heap hb2];rfl
 have d1:w2.cell? ⟨b,1,none⟩=some v:=by rw [Lib.cell_of_heap hb2];rfl
 have f1:w2.frozen? ⟨b,1,none⟩=false:=Lib.frozen_of_heap hb2 1
 obtain ⟨ao,n',cap,rfl⟩:∃ ao n' cap,v'=.slice ao n' cap:=by
   rcases hown'.2 with ⟨hv,_⟩ | ⟨g,cap,cur,hv,_⟩
   · exact ⟨_,_,_,hv⟩
   · exact ⟨_,_,_,hv⟩
 have HO:Hid (w2.ownsRow B 5 1 (.slice ao n' cap) (Lib.byteCells (l ++ s.data.toList)).length (Lib.byteCells (l ++ s.data.toList))):=by
   have h:w2.ownsRow B 5 1 (.slice ao n' cap) (Lib.byteCells (l ++ s.data.toList)).length (Lib.byteCells (l ++ s.data.toList)):=by
     have e:Lib.byteCells (l ++ s.data.toList)=Lib.byteCells l ++ Lib.strCells s:=by simp [Lib.byteCells,Lib.strCells]
     rw [e,List.length_append,Lib.strCells_length,hbl]
     exact hown'
   exact h
 have HNB:Hid (NonB b w1 w2):=Lib.hid (show NonB b w1 w2 from fun k hk hkb hu=>hgrow.block k hk (fun e=>by
   rcases hown.2 with ⟨hv,_⟩ | ⟨g,cap',cur,hv,_,hh,_⟩
   · rw [hv] at e;cases e
   · rw [hv] at e
     have:k=g:=by simpa [Value.ownBlock] using e
     subst this
     exact hu _ _ hh))
 have HSZ:Hid (w1.heap.size≤w2.heap.size):=Lib.hid hgrow.size
 clear hown'
 go_wp2
 go_ret2
 refine ⟨rfl,.inr ?_,?_,?_⟩
 · exact Lib.BuilderAt.put (T:=123) (e:=5) hB hb2 HO.out (by decide)
 · exact (hb1.grown hgrow (by have:=hb1.size;omega) (fun k hk=>(hown.lt k hk).1)).setCell (p:=⟨b,1,none⟩) hB _
 · refine ((HN1.out.trans HNB.out (by rw [HS1.out];exact Nat.le_refl _)).trans (fun k _ hk _=>heap_setCell_other _ _ _ _ (fun e=>hk e)) ?_)
   rw [←HS1.out];exact HSZ.out
set_option maxRecDepth 100000 in
set_option maxHeartbeats 2000000 in
theorem wbld_byte (B b:Nat) (l:List UInt8) (c:UInt8) (w:World) (h:isBldW w B b l) (hlen:l.length + 1≤140737488355328) (hBw:B≤w.heap.size) :
   Calls Tryz.prog 109 #[.pointer (some ⟨b,0,none⟩),.int .u8 (c.toNat:Int)] w fun e w'=>e=.returned .nilIface∧isBldW w' B b (l ++ [c])∧Below B w w'∧NonB b w w':=by
 obtain ⟨i0,hi,hz0,hz1,hz2⟩:=info_parts info_u8
 have hbl:(Lib.byteCells l).length=l.length:=by simp [Lib.byteCells]
 go_enter Tryz.func109,Tryz.ntmps109
 go_wp2_with fail
 refine (wcopy_any B b l _ h).mono ?_
 rintro e w1 ⟨rfl,h1,hb1,hn1,hs1⟩
 have HN1:=Lib.hid hn1
 have HS1:=Lib.hid hs1
 obtain ⟨hB,v,hbk,hown,hne⟩:=h1
 have c0:w1.cell? ⟨b,0,none⟩=some (.pointer (some ⟨b,0,none⟩)):=by rw [Lib.cell_of_heap hbk];rfl
 have c1:w1.cell? ⟨b,1,none⟩=some v:=by rw [Lib.cell_of_heap hbk];rfl
 clear hn1 hs1
 have hownB:ownsB w1 B v l:=by have h:=hown;rw [hbl] at h;exact h
 go_wp2_with (at_builtin;refine wpList_append_byte rfl _ _ rfl B v l rfl (hownB.alloc _) ⟨w1.heap.size,0,none⟩ 1 rfl (c.toNat:Int) c ?c3 rfl ?c4 ?c5 ?_)
 case c3=>simp [Addr.add]
 case c4=>omega
 case c5=>have:=hb1.size;simp;omega
 intro v' w2 hown' hgrow0 _
 have hgrow:w1.grownBy w2 v.ownBlock:=⟨hgrow0.os,hgrow0.tape,hgrow0.output,Nat.le_trans (by simp) hgrow0.size,fun k hk hne=>(hgrow0.block k (by simp;omega) hne).trans (Below.heap_alloc _ _ _ hk)⟩
 have hlt:b < w1.heap.size:=by
   rcases Nat.lt_or_ge b w1.heap.size with h' | h'
   · exact h'
   · simp [Array.getElem?_eq_none h'] at hbk
 have hb2:w2.heap[b]? = some (.cells #[.pointer (some ⟨b,0,none⟩),v] 123 (0,0)):=by
   rw [hgrow.block b hlt (fun e=>hne e.symm)]
   exact hbk
 have d0:w2.cell? ⟨b,0,none⟩=some (.pointer (some ⟨b,0,none⟩)):=by rw [Lib.cell_of_heap hb2];rfl
 have d1:w2.cell? ⟨b,1,none⟩=some v:=by rw [Lib.cell_of_heap hb2];rfl
 have f1:w2.frozen? ⟨b,1,none⟩=false:=Lib.frozen_of_heap hb2 1
 obtain ⟨ao,n',cap,rfl⟩:∃ ao n' cap,v'=.slice ao n' cap:=by
   rcases hown'.2 with ⟨hv,_⟩ | ⟨g,cap,cur,hv,_⟩
   · exact ⟨_,_,_,hv⟩
   · exact ⟨_,_,_,hv⟩
 have HO:Hid (w2.ownsRow B 5 1 (.slice ao n' cap) (Lib.byteCells (l ++ [c])).length (Lib.byteCells (l ++ [c]))):=by
   have h:w2.ownsRow B 5 1 (.slice ao n' cap) (Lib.byteCells (l ++ [c])).length (Lib.byteCells (l ++ [c])):=by
     have e:(Lib.byteCells (l ++ [c])).length=(l ++ [c]).length:=by simp [Lib.byteCells]
     rw [e]
     exact hown'
   exact h
 have HNB:Hid (NonB b w1 w2):=Lib.hid (show NonB b w1 w2 from fun k hk hkb hu=>hgrow.block k hk (fun e=>by
   rcases hown.2 with ⟨hv,_⟩ | ⟨g,cap',cur,hv,_,hh,_⟩
   · rw [hv] at e;cases e
   · rw [hv] at e
     have:k=g:=by simpa [Value.ownBlock] using e
     subst this
     exact hu _ _ hh))
 have HSZ:Hid (w1.heap.size≤w2.heap.size):=Lib.hid hgrow.size
 clear hown' hownB
 go_wp2
 go_ret
 refine ⟨rfl,.inr ?_,?_,?_⟩
 · exact Lib.BuilderAt.put (T:=123) (e:=5) hB hb2 HO.out (by decide)
 · exact (hb1.grown hgrow (by have:=hb1.size;omega) (fun k hk=>(hown.lt k hk).1)).setCell (p:=⟨b,1,none⟩) hB _
 · refine ((HN1.out.trans HNB.out (by rw [HS1.out];exact Nat.le_refl _)).trans (fun k _ hk _=>heap_setCell_other _ _ _ _ (fun e=>hk e)) ?_)
   rw [←HS1.out];exact HSZ.out
set_option maxRecDepth 100000 in
theorem wbld_len (B b:Nat) (l:List UInt8) (w:World) (h:isBldW w B b l) :
   Calls Tryz.prog 111 #[.pointer (some ⟨b,0,none⟩)] w fun e w'=>e=.returned (.int .i64 (l.length:Int))∧w=w':=by
 have hbl:(Lib.byteCells l).length=l.length:=by simp [Lib.byteCells]
 obtain ⟨p,hB,v,hbk,hown,hne⟩:∃ p,Lib.BuilderAt 123 5 B b p (Lib.byteCells l) w:=by
   rcases h with h | h
   · exact ⟨_,h⟩
   · exact ⟨_,h⟩
 have c1:w.cell? ⟨b,1,none⟩=some v:=by rw [Lib.cell_of_heap hbk];rfl
 obtain ⟨a,cp,rfl⟩:∃ a cp,v=.slice a l.length cp:=by
   rcases hown.2 with ⟨hv,h0⟩ | ⟨g,cap,cur,hv,_⟩
   · exact ⟨none,0,by rw [hv];rw [hbl] at h0;rw [h0]⟩
   · exact ⟨_,_,by rw [hv,hbl]⟩
 generalize l.length=n at c1 ⊢
 clear hown hbk hne hbl h
 go_enter Tryz.func111,Tryz.ntmps111
 go_wp2
 go_ret
 exact ⟨rfl,rfl⟩
set_option maxRecDepth 100000 in
set_option maxHeartbeats 2000000 in
theorem wbld_string (B b:Nat) (l:List UInt8) (w:World) (h:isBldW w B b l) (h0:l≠[]) :
   Calls Tryz.prog 49 #[.pointer (some ⟨b,0,none⟩)] w fun e w'=>e=.returned (.string ⟨l.toArray⟩)∧Below B w w':=by
 have hbl:(Lib.byteCells l).length=l.length:=by simp [Lib.byteCells]
 obtain ⟨p,hB,v,hbk,hown,hne⟩:∃ p,Lib.BuilderAt 123 5 B b p (Lib.byteCells l) w:=by
   rcases h with h | h
   · exact ⟨_,h⟩
   · exact ⟨_,h⟩
 rw [hbl] at hown
 have hpos:0 < l.length:=List.length_pos_iff.2 h0
 obtain ⟨g,cap,cur,hv,hbg,hg,hcl,hcm,hcs⟩:∃ g cap cur,v=.slice (some ⟨g,0,none⟩) l.length cap∧B≤g∧w.heap[g]? = some (.cells cur 5 (0,0))∧l.length≤cap∧cap≤maxLen∧cur.size=cap * 1:=by
   rcases hown.2 with ⟨hv,hn⟩ | ⟨g,cap,cur,hv,hb,hh,hc,hm,hs,_⟩
   · exact absurd hn (by omega)
   · exact ⟨g,cap,cur,hv,hb,hh,hc,hm,hs⟩
 subst hv
 have c1:w.drew.cell? ⟨b,1,none⟩=some (.slice (some ⟨g,0,none⟩) l.length cap):=by
   have:w.drew.heap[b]? = some (.cells #[p,.slice (some ⟨g,0,none⟩) l.length cap] 123 (0,0)):=hbk
   rw [Lib.cell_of_heap this];rfl
 have hSD:(Builtin.unsafeSliceData_ #[60] 114 #[.slice (some ⟨g,0,none⟩) l.length cap]).run Tryz.prog w.drew=.ok (.pointer (some ⟨g,0,none⟩)) w.drew :=
   Lib.run_unsafeSliceData_row _ _ _ _ _ _ (by omega)
 have hUS:(Builtin.unsafeString_ #[114,3] 9 #[.pointer (some ⟨g,0,none⟩),.int .i64 l.length]).run Tryz.prog w.drew=.ok (.string ⟨l.toArray⟩) (w.drew.freeze ⟨g,0,none⟩ l.length):=by
   refine Lib.run_unsafeString_row w.drew 114 3 9 5 Tryz.underlying114 (by kernel_rfl) g cur.size (by have hg':w.drew.heap[g]? = some (.cells cur 5 (0,0)):=hg;simp [World.shape?,hg']) l h0 (by omega) (by unfold maxLen at hcm;omega) ?_
   intro j x hx
   have:=hown.cells (g:=g) rfl j (.int .u8 x.toNat) (by simp [Lib.byteCells,hx])
   exact this
 clear hown hcl hcm hpos hcs
 go_enter Tryz.func49,Tryz.ntmps49
 go_wp2
 go_region
 all_goals (go_wp2;go_ret;exact ⟨rfl,Lib.below_freeze (Below.drew (Below.refl B w)) (p:=⟨g,0,none⟩) hbg _⟩)
end Go.Proofs.YtjkbmfpomgcblaaGreatDoor
