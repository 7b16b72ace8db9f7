import Derived.Test.YtjkbmfpomgcblaaGreatDoorKw03
import Derived.Lib.Builder
import Derived.Lib.UnsafeStr
import Derived.Laws.Externs
import Derived.Deep.RegionHeld3
import Derived.StillTailTactics
import Derived.Laws.Rows
import Derived.Laws.NewBlocks
namespace Go.Proofs.YtjkbmfpomgcblaaGreatDoor
open Go.RowKit
theorem bldSize:(Tryz.prog.info? 64).map (·.size)=some 2:=by kernel_rfl
theorem bldLies:liesAt Tryz.prog Tryz.prog.depth 64 (2 / Tryz.prog.cellsOf 64) 0 64 1=true:=by kernel_rfl
def isBld (w:World) (B b:Nat) (l:List UInt8):Prop:=Lib.IsBuilder 64 5 B b (Lib.byteCells l) w
theorem bld_new (w:World) (B:Nat) (h:B≤w.heap.size):isBld (w.alloc (.cells #[.pointer none,.slice none 0 0] 64)) B w.heap.size [] :=
 .inl ⟨h,.slice none 0 0,heap_alloc_new w _,World.ownsRow_nil _ _ _ _,by simp [Value.ownBlock]⟩
theorem isBld.below {w w':World} {B b:Nat} {l:List UInt8} (h:isBld w B b l) (hb:Below w.heap.size w w'):isBld w' B b l:=by
 have hone:∀ {p:Value},Lib.BuilderAt 64 5 B b p (Lib.byteCells l) w→Lib.BuilderAt 64 5 B b p (Lib.byteCells l) w':=by
   intro p h
   have hlt:=h.lt
   obtain ⟨hB,v,hbk,hown,hne⟩:=h
   refine ⟨hB,v,(hb.block b hlt).trans hbk,?_,hne⟩
   refine World.ownsRow.kept hown (row:=none) ⟨hb.os,hb.tape,hb.output,hb.size,fun k hk _=>hb.block k hk⟩ ?_
   cases hv:v.ownBlock with
   | none=>exact .inl rfl
   | some g=>exact .inr (by simp)
 rcases h with h | h
 · exact .inl (hone h)
 · exact .inr (hone h)
theorem isBld.lt {w:World} {B b:Nat} {l:List UInt8} (h:isBld w B b l):B≤b∧b < w.heap.size:=by
 rcases h with h | h
 · exact ⟨h.1,h.lt⟩
 · exact ⟨h.1,h.lt⟩
theorem isBld.alloc {w:World} {B b:Nat} {l:List UInt8} (h:isBld w B b l) (o:Obj):isBld (w.alloc o) B b l:=h.below ((Below.refl _ _).alloc (Nat.le_refl _) _)
set_option maxRecDepth 100000 in
set_option maxHeartbeats 1000000 in
theorem copy_used (b:Nat) (w:World) (h0:w.cell? ⟨b,0,none⟩=some (.pointer (some ⟨b,0,none⟩))) :
   Calls Tryz.prog 92 #[.pointer (some ⟨b,0,none⟩)] w fun e w'=>e=.returned (.tuple #[])∧w'=w:=by
 obtain ⟨j,hj,_⟩:=Option.map_eq_some_iff.1 bldSize
 go_enter Tryz.func92,Tryz.ntmps92
 go_wp2
 rw [Lib.run_neq_ptr_same w _ Tryz.underlying62 hj]
 go_wp2
 go_end0
 exact ⟨rfl,rfl⟩
set_option maxRecDepth 100000 in
set_option maxHeartbeats 1000000 in
theorem copy_fresh (b:Nat) (w:World) (h0:w.cell? ⟨b,0,none⟩=some (.pointer none)) (hsh:w.shape? b=some (64,2)) (hfz:w.frozen? ⟨b,0,none⟩=false) :
   Calls Tryz.prog 92 #[.pointer (some ⟨b,0,none⟩)] w fun e w'=>e=.returned (.tuple #[])∧w'=w.setCell ⟨b,0,none⟩ (.pointer (some ⟨b,0,none⟩)):=by
 obtain ⟨j,hj,hjs⟩:=Option.map_eq_some_iff.1 bldSize
 go_enter Tryz.func92,Tryz.ntmps92
 go_wp2
 rw [Lib.run_to_unsafe w ⟨b,0,none⟩ Tryz.underlying62 Tryz.underlying170 hj (by rw [hjs];decide) hsh (Nat.zero_lt_succ 1)]
 simp only [Result.andThen]
 rw [Oper.upon_value]
 go_wp2
 rw [run_callFunc_extern Tryz.func148 (by kernel_rfl) (by kernel_rfl) (by kernel_rfl) (e:=Extern.AbiNoEscape.same) (by kernel_rfl)]
 rw [Lib.run_noEscape]
 simp only [Result.andThen]
 rw [Oper.upon_value]
 go_wp2
 rw [Lib.run_from_unsafe w ⟨b,0,none⟩ Tryz.underlying170 Tryz.underlying62 hj hsh bldLies]
 simp only [Result.andThen]
 rw [Oper.upon_value]
 go_wp2
 go_end0
 exact ⟨rfl,rfl⟩
theorem copy_any (B b:Nat) (l:List UInt8) (w:World) (h:isBld w B b l) :
   Calls Tryz.prog 92 #[.pointer (some ⟨b,0,none⟩)] w fun e w'=>e=.returned (.tuple #[])∧Lib.BuilderAt 64 5 B b (.pointer (some ⟨b,0,none⟩)) (Lib.byteCells l) w'∧Below B w w':=by
 rcases h with h | h
 · refine (copy_fresh b w h.cell0 h.shape h.frozen0).mono ?_
   rintro e w' ⟨rfl,rfl⟩
   exact ⟨rfl,h.used _,(Below.refl B w).setCell (p:=⟨b,0,none⟩) h.1 _⟩
 · refine (copy_used b w h.cell0).mono ?_
   rintro e w' ⟨rfl,rfl⟩
   exact ⟨rfl,h,Below.refl B _⟩
set_option maxRecDepth 100000 in
set_option maxHeartbeats 2000000 in
theorem bld_write (B b:Nat) (l:List UInt8) (s:ByteArray) (w:World) (h:isBld w B b l) (hlen:l.length + s.size≤140737488355328) (hBw:B≤w.heap.size) :
   Calls Tryz.prog 44 #[.pointer (some ⟨b,0,none⟩),.string s] w fun e w'=>e=.returned (.tuple #[.int .i64 s.size,.nilIface])∧isBld w' B b (l ++ s.data.toList)∧Below B w w':=by
 obtain ⟨i0,hi,hz0,hz1,hz2⟩:=info_parts info_u8
 have hbl:(Lib.byteCells l).length=l.length:=by simp [Lib.byteCells]
 go_enter Tryz.func44,Tryz.ntmps44
 go_wp2_with fail
 refine (copy_any B b l _ h).mono ?_
 rintro e w1 ⟨rfl,h1,hb1⟩
 obtain ⟨hB,v,hbk,hown,hne⟩:=h1
 have c0:w1.cell? ⟨b,0,none⟩=some (.pointer (some ⟨b,0,none⟩)):=by rw [Lib.cell_of_heap hbk];rfl
 have c1:w1.cell? ⟨b,1,none⟩=some v:=by rw [Lib.cell_of_heap hbk];rfl
 go_wp2_with (at_builtin;refine Lib.wpList_append_own_string _ rfl _ _ 60 9 rfl B 5 i0 Tryz.underlying60 Tryz.underlying9 hi hz0 hz1 hz2 _ _ _ rfl hown s rfl ?c3 ?c4 ?c5 ?_)
 case c3=>rw [hbl];unfold maxLen;omega
 case c4=>rw [hbl];omega
 case c5=>have:=hb1.size;omega
 intro v' w2 hown' hgrow _
 have hlt:b < w1.heap.size:=by
   rcases Nat.lt_or_ge b w1.heap.size with h' | h'
   · exact h'
   · simp [Array.getElem?_eq_none h'] at hbk
 have hb2:w2.heap[b]? = some (.cells #[.pointer (some ⟨b,0,none⟩),v] 64 (0,0)):=by
   rw [hgrow.block b hlt (fun e=>hne e.symm)]
   exact hbk
 have d0:w2.cell? ⟨b,0,none⟩=some (.pointer (some ⟨b,0,none⟩)):=by rw [Lib.cell_of_heap hb2];rfl
 have d1:w2.cell? ⟨b,1,none⟩=some v:=by rw [Lib.cell_of_heap hb2];rfl
 have f1:w2.frozen? ⟨b,1,none⟩=false:=Lib.frozen_of_heap hb2 1
 obtain ⟨ao,n',cap,rfl⟩:∃ ao n' cap,v'=.slice ao n' cap:=by
   rcases hown'.2 with ⟨hv,_⟩ | ⟨g,cap,cur,hv,_⟩
   · exact ⟨_,_,_,hv⟩
   · exact ⟨_,_,_,hv⟩
 have HO:Hid (w2.ownsRow B 5 1 (.slice ao n' cap) (Lib.byteCells (l ++ s.data.toList)).length (Lib.byteCells (l ++ s.data.toList))):=by
   have h:w2.ownsRow B 5 1 (.slice ao n' cap) (Lib.byteCells (l ++ s.data.toList)).length (Lib.byteCells (l ++ s.data.toList)):=by
     have e:Lib.byteCells (l ++ s.data.toList)=Lib.byteCells l ++ Lib.strCells s:=by simp [Lib.byteCells,Lib.strCells]
     rw [e,List.length_append,Lib.strCells_length,hbl]
     exact hown'
   exact h
 clear hown'
 go_wp2
 go_ret2
 refine ⟨rfl,.inr ?_,?_⟩
 · exact Lib.BuilderAt.put (T:=64) (e:=5) hB hb2 HO.out (by decide)
 · exact (hb1.grown hgrow (by have:=hb1.size;omega) (fun k hk=>(hown.lt k hk).1)).setCell (p:=⟨b,1,none⟩) hB _
theorem bld_string (B b:Nat) (l:List UInt8) (w:World) (h:isBld w B b l) (hBw:B≤w.heap.size) :
   Calls Tryz.prog 49 #[.pointer (some ⟨b,0,none⟩)] w fun e w'=>e=.returned (.string ⟨l.toArray⟩)∧Below B w w' :=
 Tryz.Builder_String_any B b l w h hBw
end Go.Proofs.YtjkbmfpomgcblaaGreatDoor
namespace Go.Proofs.YtjkbmfpomgcblaaGreatDoor
open Go.RowKit
theorem kclone_any (s:ByteArray) (w:World) (hs:s.size≤281474976710656) :
   Calls Tryz.prog 151 #[.string s] w fun e w'=>e=.returned (.string s)∧Below w.heap.size w w':=by
 go_enter Tryz.func151,Tryz.ntmps151
 go_wp2_with fail
 refine (Tryz.stringslite_Clone s _ hs).mono ?_
 rintro r w1 ⟨rfl,hb1⟩
 go_wp2
 go_ret
 exact ⟨rfl,hb1⟩
def TabIs (w:World) (l:List ByteArray) (e:Ending) (w':World):Prop :=
 ∃ v1 v2,e=.returned (.tuple #[v1,v2])∧ownsS w' w.heap.size v1 (tabK [] l)∧ownsN w' w.heap.size v2 (atK [] l)∧Below w.heap.size w w'
set_option maxRecDepth 100000 in
set_option maxHeartbeats 4000000 in
theorem ktab_any (v:Value) (l:List ByteArray) (w:World) (hv:IsTexts w v l) (hl:l.length≤1000000) (hs:∀ s∈l,s.size≤140737488351232) :
   Calls Tryz.prog 106 #[v] w (TabIs w l):=by
 obtain ⟨a1,c1,rfl,_,f1⟩:=hv
 have F1:=Lib.hid f1
 have HS:=Lib.hid hs
 obtain ⟨n,hn⟩:∃ n,n=l.length:=⟨_,rfl⟩
 rw [←hn] at hl ⊢
 have HN:=Lib.hid hn
 clear f1 hs hn
 have hmm:=@run_makeMap Tryz.prog
 go_enter Tryz.func106,Tryz.ntmps106
 go_wp2
 go_loopw [2, 3, 12] (fun t a i wr => ∃ (k : Nat) (T : List ByteArray) (N : List Nat), k ≤ n ∧ i = .int .i64 k ∧ T.length ≤ k ∧ N.length = k ∧ tabK [] l = tabK T (l.drop k) ∧ atK [] l = N ++ atK T (l.drop k) ∧
     ownsNum wr w.heap.size k T∧ownsS wr (w.heap.size + 1) t T∧ownsN wr (w.heap.size + 1) a N∧w.heap.size + 1≤wr.heap.size∧Below w.heap.size w wr) (fun _ _ i _=>n - (intOf i).toNat)
 case atStart=>exact ⟨0,[],[],Nat.zero_le _,rfl,Nat.le_refl _,rfl,rfl,rfl,ownsNum_made _,ownsS_nil _ _,ownsN_nil _ _,by simp,(Below.refl _ _).alloc (Nat.le_refl _) _⟩
 case round =>
   obtain ⟨k,T,N,hk,rfl,hT,hN,ht,ha,hmap,hos,hon,hz,hbel⟩:=hrel
   have HT:=Lib.hid ht
   have HA:=Lib.hid ha
   have HM:=Lib.hid hmap
   have HO:=Lib.hid hos
   have HQ:=Lib.hid hon
   have HB:=Lib.hid hbel
   have HZ:=Lib.hid hz
   have HNL:=Lib.hid hN
   have HTL:=Lib.hid hT
   obtain ⟨ad,cp,rfl,_,_⟩:=hos.isTexts
   clear ht ha hmap hos hon hbel hN hT hz
   by_cases hlt:k < n
   · obtain ⟨s, hs⟩ : ∃ s, l[k]? = some s := ⟨l[k]'(by have := HN.out; omega), List.getElem?_eq_getElem _⟩
     obtain ⟨b1,o1,rfl,hb1,p0⟩:=F1.out k s hs
     have q0:=(HB.out.cell (p:=⟨b1,o1 + k,none⟩) hb1).trans p0
     have HSZ:Hid (s.size≤140737488351232):=Lib.hid (HS.out s (List.mem_of_getElem? hs))
     have hsz:s.size≤maxLen:=by have:=HSZ.out;unfold maxLen;omega
     by_cases hin:s∈T
     · have HJ:=Lib.hid (idxB_get hin)
       have HT2:=Lib.hid (HT.out.trans (tabK_in hs hin))
       have HA2:=Lib.hid (HA.out.trans (congrArg (N ++ ·) (atK_in hs hin)))
       obtain ⟨j,hj⟩:∃ j,idxB T s=j:=⟨_,rfl⟩
       rw [hj] at HJ HA2
       clear p0 hs hj
       go_wp2_with (first
         | (at_lookup;refine wpList_num_there rfl _ _ rfl w.heap.size k T rfl HM.out s rfl hsz j HJ.out ?_)
         | (at_builtin;refine wpList_append_int rfl _ _ rfl (w.heap.size + 1) _ N rfl (HQ.out.alloc _) ⟨wr.heap.size,0,none⟩ 1 rfl j ?c1 ?c2 ?c3 ?_))
       case c1=>simp [Addr.add]
       case c2=>have:=HNL.out;omega
       case c3=>have:=HZ.out;simp;omega
       intro g cap w1 ho1 hg1
       have hbel1:Below w.heap.size w w1:=(HB.out.alloc HB.out.size _).grown hg1 (by have:=HB.out.size;simp;omega) (fun g hg=>by have:=(HQ.out.lt g hg).1;omega)
       have hm1:ownsNum w1 w.heap.size (k + 1) T:=((HM.out.mono (Nat.le_succ k)).alloc _).kept hg1 (by intro e;exact HQ.out.off (Nat.lt_succ_self _) e.symm)
       have hs1:ownsS w1 (w.heap.size + 1) _ T:=World.ownsRow.kept (HO.out.alloc _) hg1 (rows_apart HO.out HQ.out (show 9≠3 by decide))
       have hz1:w.heap.size + 1≤w1.heap.size:=by have:=HZ.out;have:=hg1.size;simp at this;omega
       have ha1:atK [] l=(N ++ [j]) ++ atK T (l.drop (k + 1)):=by rw [HA2.out];simp
       have hn1:(N ++ [j]).length=k + 1:=by have:=HNL.out;simp;omega
       have HNL1:Hid (N.length + 1=(N ++ [j]).length):=Lib.hid (show N.length + 1=(N ++ [j]).length by simp)
       rw [HNL1.out] at ho1
       have HX:=Lib.hid (And.intro hbel1 (And.intro hm1 (And.intro hs1 (And.intro hz1 (And.intro ha1 (And.intro hn1 ho1))))))
       clear hbel1 hm1 hs1 hz1 ha1 hn1 ho1 hg1
       go_wp2
       go_roundw
       case rel=>exact ⟨k + 1,T,N ++ [j],by omega,by go_num,by have:=HTL.out;omega,HX.out.2.2.2.2.2.1,HT2.out,HX.out.2.2.2.2.1,HX.out.2.1,HX.out.2.2.1,by simpa using HX.out.2.2.2.2.2.2,HX.out.2.2.2.1,HX.out.1⟩
       case measure=>simp [intOf];omega
     · have HT2:=Lib.hid (HT.out.trans (tabK_new hs hin))
       have HA2:=Lib.hid (HA.out.trans (congrArg (N ++ ·) (atK_new hs hin)))
       have HTM:Hid (T.length≤maxLen):=Lib.hid (by show T.length≤maxLen;have:=HTL.out;unfold maxLen;omega)
       clear p0 hs
       go_wp2_with (first
         | (at_lookup;refine wpList_num_none rfl _ _ rfl w.heap.size k T rfl HM.out s rfl hsz hin ?_;intro c)
         | (at_mapUpdate;refine wpList_num_put rfl _ _ _ rfl w.heap.size k T rfl HM.out (by unfold maxLen;omega) s rfl rfl hsz hin HTM.out ?_;intro w1 hm1 hg1))
       have hbel1:Below w.heap.size w w1:=HB.out.grown hg1 HB.out.size (fun g hg=>by cases hg;exact Nat.le_refl _)
       have hs1:ownsS w1 (w.heap.size + 1) _ T:=World.ownsRow.kept HO.out hg1 (.inr (HO.out.off (Nat.lt_succ_self _)))
       have hn1:ownsN w1 (w.heap.size + 1) _ N:=World.ownsRow.kept HQ.out hg1 (.inr (HQ.out.off (Nat.lt_succ_self _)))
       have hz1:w.heap.size + 1≤w1.heap.size:=Nat.le_trans HZ.out hg1.size
       have HX:=Lib.hid (And.intro hbel1 (And.intro hm1 (And.intro hs1 (And.intro hn1 hz1))))
       clear hbel1 hm1 hs1 hn1 hz1 hg1
       refine (kclone_any s w1 (by have:=HSZ.out;omega)).mono ?_
       rintro r w2 ⟨rfl,hb2⟩
       have HB2:=Lib.hid (HX.out.1.trans (hb2.mono HX.out.1.size))
       have HM2:=Lib.hid (HX.out.2.1.below hb2)
       have HS2:=Lib.hid (HX.out.2.2.1.below hb2)
       have HN2:=Lib.hid (HX.out.2.2.2.1.below hb2)
       have HZ2:=Lib.hid (Nat.le_trans HX.out.2.2.2.2 hb2.size)
       clear hb2 HX HM HO HQ HB HZ
       go_wp2_with (at_builtin;refine wpList_append_str rfl _ _ rfl (w.heap.size + 1) _ T rfl (HS2.out.alloc _) ⟨w2.heap.size,0,none⟩ 1 rfl s ?c1 ?c2 ?c3 ?_)
       case c1=>simp [Addr.add]
       case c2=>have:=HTL.out;omega
       case c3=>have:=HZ2.out;simp;omega
       intro g cap w3 ho3 hg3
       have HB3:Hid (Below w.heap.size w w3):=(HB2.out.alloc HB2.out.size _).grown hg3 (by have:=HB2.out.size;simp;omega) (fun g hg=>by have:=(HS2.out.lt g hg).1;omega)
       have HM3:=Lib.hid ((HM2.out.alloc _).kept hg3 (by intro e;exact HS2.out.off (Nat.lt_succ_self _) e.symm))
       have HN3:=Lib.hid (show ownsN w3 (w.heap.size + 1) _ N from World.ownsRow.kept (HN2.out.alloc _) hg3 (rows_apart HN2.out HS2.out (show 3≠9 by decide)))
       have HZ3:Hid (w.heap.size + 1≤w3.heap.size):=Lib.hid (by show _≤_;have:=HZ2.out;have:=hg3.size;simp at this;omega)
       have HS3:=Lib.hid ho3
       clear ho3 hg3 HB2 HM2 HS2 HN2 HZ2
       go_wp2_with (at_builtin;refine wpList_append_int rfl _ _ rfl (w.heap.size + 1) _ N rfl (HN3.out.alloc _) ⟨w3.heap.size,0,none⟩ 1 rfl T.length ?d1 ?d2 ?d3 ?_)
       case d1=>simp [Addr.add]
       case d2=>have:=HNL.out;omega
       case d3=>have:=HZ3.out;simp;omega
       intro g' cap' w4 ho4 hg4
       have HB4:Hid (Below w.heap.size w w4):=(HB3.out.alloc HB3.out.size _).grown hg4 (by have:=HB3.out.size;simp;omega) (fun g hg=>by have:=(HN3.out.lt g hg).1;omega)
       have HM4:=Lib.hid ((HM3.out.alloc _).kept hg4 (by intro e;exact HN3.out.off (Nat.lt_succ_self _) e.symm))
       have HS4:=Lib.hid (show ownsS w4 (w.heap.size + 1) _ (T ++ [s]) from World.ownsRow.kept (HS3.out.alloc _) hg4 (rows_apart HS3.out HN3.out (show 9≠3 by decide)))
       have HZ4:Hid (w.heap.size + 1≤w4.heap.size):=Lib.hid (by show _≤_;have:=HZ3.out;have:=hg4.size;simp at this;omega)
       have HN4:=Lib.hid ho4
       have HA4:Hid (atK [] l=(N ++ [T.length]) ++ atK (T ++ [s]) (l.drop (k + 1))):=Lib.hid (show _=_ by rw [HA2.out];simp)
       have HL4:Hid ((N ++ [T.length]).length=k + 1∧(T ++ [s]).length≤k + 1):=Lib.hid (show _∧_ by have:=HNL.out;have:=HTL.out;simp;omega)
       clear ho4 hg4 HB3 HM3 HS3 HN3 HZ3 HA2
       go_wp2
       go_roundw
       case rel=>exact ⟨k + 1,T ++ [s],N ++ [T.length],by omega,by go_num,HL4.out.2,HL4.out.1,HT2.out,HA4.out,HM4.out,HS4.out,HN4.out,HZ4.out,HB4.out⟩
       case measure=>simp [intOf];omega
   · have HT2:Hid (tabK [] l=T):=Lib.hid (show _=_ by rw [HT.out,List.drop_eq_nil_of_le (by have:=HN.out;omega)];rfl)
     have HA2:Hid (atK [] l=N):=Lib.hid (show _=_ by rw [HA.out,List.drop_eq_nil_of_le (by have:=HN.out;omega)];simp [atK])
     go_wp2
     go_ret2
     refine ⟨_,_,rfl,?_,?_,HB.out⟩
     · rw [HT2.out];exact HO.out.mono (Nat.le_succ _)
     · rw [HA2.out];exact HQ.out.mono (Nat.le_succ _)
end Go.Proofs.YtjkbmfpomgcblaaGreatDoor
namespace Go.Proofs.YtjkbmfpomgcblaaGreatDoor
open Go.RowKit
theorem not_u32 {n:Nat} (h:n < 4294967296):bits .xor .u32 IntKind.u32.max (n:Int)=(inv n:Nat):=by
 rw [show IntKind.u32.max=((4294967295:Nat):Int) from by decide,u32_xor_nat _ _ (by decide) h,Nat.xor_comm];rfl
theorem xor_u32 {n:Nat} (h:n < 4294967296) (c:UInt8):bits .xor .u32 (n:Int) ((c.toNat:Int) % 4294967296)=((n ^^^ c.toNat:Nat):Int):=by
 have:=byte_lt c
 rw [Int.emod_eq_of_lt (by omega) (by omega)];exact u32_xor_nat _ _ h (byte_lt c)
theorem take_at (s:ByteArray) (c k:Nat) (h:k < s.size):run c (s.data.toList.take (k + 1))=pass (run c (s.data.toList.take k) ^^^ s[k].toNat) :=
 run_take c s.data.toList k (by simpa using h)
theorem take_all (s:ByteArray):s.data.toList.take s.size=s.data.toList:=List.take_of_length_le (by simp)
set_option maxRecDepth 100000 in
set_option maxHeartbeats 400000 in
theorem more_any (x:Int) (s:ByteArray) (w:World) (h0:0≤x) (h1:x < 4294967296) (hs:s.size≤maxLen) :
   Calls Tryz.prog 56 #[.int .u32 x,.string s] w fun e w'=>e=.returned (.int .u32 (more x.toNat s.data.toList:Nat))∧w=w':=by
 unfold maxLen at hs
 obtain ⟨n,rfl⟩:=Int.eq_ofNat_of_zero_le h0
 have hn:n < 4294967296:=by omega
 clear h0 h1
 go_enter Tryz.func56,Tryz.ntmps56
 go_wp2
 go_loop [0,10] (fun s0 i=>∃ k:Nat,k≤s.size∧i=.int .i64 k∧s0=.int .u32 (run (inv n) (s.data.toList.take k):Nat)) (fun _ i=>s.size - (intOf i).toNat)
 case atStart=>exact ⟨0,by omega,rfl,by rw [not_u32 hn];rfl⟩
 case round =>
   obtain ⟨k,hk,rfl,rfl⟩:=hrel
   have hr:=run_lt (s.data.toList.take k) (inv_lt hn)
   by_cases hlt:k < s.size
   · have hx:=xor_u32 hr s[k]
     have hl:=xlt hr (byte_lt s[k])
     go_wp2_with fail
     refine (pass_any _ _ (by omega) (by omega)).mono ?_
     rintro e w' ⟨rfl,rfl⟩
     rw [Int.toNat_natCast]
     go_wp2
     go_round
     case rel=>exact ⟨k + 1,by omega,by go_num,by rw [take_at s _ k hlt]⟩
     case measure=>simp [intOf];omega
   · obtain rfl:k=s.size:=by omega
     go_wp2
     go_ret
     exact ⟨ret_u32 (by rw [not_u32 hr,take_all];rfl),rfl⟩
set_option maxRecDepth 100000 in
set_option maxHeartbeats 400000 in
theorem sum_any (s:ByteArray) (w:World) (hs:s.size≤maxLen) :
   Calls Tryz.prog 55 #[.string s] w fun e w'=>e=.returned (.int .u32 (sum s.data.toList:Nat))∧w=w':=by
 go_enter Tryz.func55,Tryz.ntmps55
 go_wp2_with fail
 refine (more_any _ _ _ (by omega) (by omega) hs).mono ?_
 rintro e w' ⟨rfl,rfl⟩
 go_wp2
 go_ret
 exact ⟨rfl,rfl⟩
end Go.Proofs.YtjkbmfpomgcblaaGreatDoor
namespace Go.Proofs.YtjkbmfpomgcblaaGreatDoor
open Go.RowKit
def cmpF (x y:Int):Int:=if x < y then -1 else if y < x then 1 else 0
def orF (p q:Int):Int:=if p=0 then q else p
def cI (a b:Int×Int):Int:=orF (cmpF a.1 b.1) (cmpF a.2 b.2)
def wiF (x:Int×Int) (from_ have_:List Ent):Bool:=decide (ofF from_ x.2 < x.1) && decide (x.1≤ofF have_ x.2)
set_option maxRecDepth 100000 in
theorem cmp_any (x y:Int) (w:World):Calls Tryz.prog 201 #[.int .i64 x,.int .i64 y] w fun e w'=>e=.returned (.int .i64 (cmpF x y))∧w=w':=by
 have hn:∀ (z:Int) (w:World),Calls Tryz.prog 225 #[.int .i64 z] w fun e w'=>e=.returned (.bool false)∧w=w':=fun z w=>by
   go_enter Tryz.func225,Tryz.ntmps225
   go_wp2
   go_ret
   exact ⟨by first | rfl | simp,rfl⟩
 by_cases h1:x < y
 · have HW:Hid (cmpF x y=-1):=Lib.hid (by unfold cmpF;rw [if_pos h1])
   rw [HW.out]
   go_enter Tryz.func201,Tryz.ntmps201
   go_wp2_with (first | (go_at_call 225;refine (hn _ _).mono ?_;rintro e w' ⟨rfl,rfl⟩))
   go_ret
   exact ⟨rfl,rfl⟩
 · by_cases h2:y < x
   · have HW:Hid (cmpF x y=1):=Lib.hid (by unfold cmpF;rw [if_neg h1,if_pos h2])
     rw [HW.out]
     go_enter Tryz.func201,Tryz.ntmps201
     go_wp2_with (first | (go_at_call 225;refine (hn _ _).mono ?_;rintro e w' ⟨rfl,rfl⟩))
     go_ret
     exact ⟨rfl,rfl⟩
   · obtain rfl:x=y:=by omega
     have HW:Hid (cmpF x x=0):=Lib.hid (by unfold cmpF;rw [if_neg h1,if_neg h1])
     rw [HW.out]
     clear h1 h2
     go_enter Tryz.func201,Tryz.ntmps201
     go_wp2_with (first | (go_at_call 225;refine (hn _ _).mono ?_;rintro e w' ⟨rfl,rfl⟩))
     go_ret
     exact ⟨rfl,rfl⟩
theorem cmp_as (x y c:Int) (w:World) (h:cmpF x y=c):Calls Tryz.prog 201 #[.int .i64 x,.int .i64 y] w fun e w'=>e=.returned (.int .i64 c)∧w=w':=by
 subst h;exact cmp_any x y w
set_option maxRecDepth 100000 in
theorem or_any (p q c:Int) (B:Nat) (w:World) (h0:w.cell? ⟨B,0,none⟩=some (.int .i64 p)) (h1:w.cell? ⟨B,1,none⟩=some (.int .i64 q)) (h:orF p q=c) :
   Calls Tryz.prog 200 #[.slice (some ⟨B,0,none⟩) 2 2] w fun e w'=>e=.returned (.int .i64 c)∧w=w':=by
 subst h
 by_cases hp:p=0
 · have HW:Hid (orF p q=q):=Lib.hid (by unfold orF;rw [if_pos hp])
   rw [HW.out]
   subst hp
   by_cases hq:q=0
   · subst hq
     go_enter Tryz.func200,Tryz.ntmps200
     go_wp2
     refine wp_loop_rounds 3 ?_
     rw [rounds_succ]
     go_wp2
     rw [rounds_succ]
     go_wp2
     rw [rounds_succ]
     go_wp2
     go_ret
     exact ⟨rfl,rfl⟩
   · have bq:(q == 0)=false:=by simpa using hq
     have bq2:(q != 0)=true:=by simpa using hq
     go_enter Tryz.func200,Tryz.ntmps200
     go_wp2
     refine wp_loop_rounds 2 ?_
     rw [rounds_succ]
     go_wp2
     rw [rounds_succ]
     go_wp2
     go_ret
     exact ⟨rfl,rfl⟩
 · have HW:Hid (orF p q=p):=Lib.hid (by unfold orF;rw [if_neg hp])
   rw [HW.out]
   have bq:(p == 0)=false:=by simpa using hp
   have bq2:(p != 0)=true:=by simpa using hp
   go_enter Tryz.func200,Tryz.ntmps200
   go_wp2
   refine wp_loop_rounds 1 ?_
   rw [rounds_succ]
   go_wp2
   go_ret
   exact ⟨rfl,rfl⟩
theorem three_new (w:World) (o1 o2:Obj) (a b:Value) (t:TypeId):(((w.alloc o1).alloc o2).alloc (.cells #[a,b] t)).cell? ⟨w.heap.size + 1 + 1,0,none⟩=some a∧(((w.alloc o1).alloc o2).alloc (.cells #[a,b] t)).cell? ⟨w.heap.size + 1 + 1,1,none⟩=some b:=by
 have h:=heap_alloc_new ((w.alloc o1).alloc o2) (.cells #[a,b] t)
 rw [World.size_alloc,World.size_alloc] at h
 exact ⟨cell_of_row _ _ 0 _ _ (0,0) h,cell_of_row _ _ 1 _ _ (0,0) h⟩
set_option maxRecDepth 100000 in
set_option maxHeartbeats 2000000 in
theorem idcmp_any (a b:Int×Int) (w:World):Calls Tryz.prog 146 #[.agg #[.int .i64 a.1,.int .i64 a.2],.agg #[.int .i64 b.1,.int .i64 b.2]] w fun e w'=>e=.returned (.int .i64 (cI a b))∧Below w.heap.size w w':=by
 obtain ⟨x1,x2⟩:=a
 obtain ⟨y1,y2⟩:=b
 simp only
 obtain ⟨c1,hc1⟩:∃ c,cmpF x1 y1=c:=⟨_,rfl⟩
 obtain ⟨c2,hc2⟩:∃ c,cmpF x2 y2=c:=⟨_,rfl⟩
 obtain ⟨c,hc⟩:∃ c,orF c1 c2=c:=⟨_,rfl⟩
 have HW:Hid (cI (x1,x2) (y1,y2)=c):=Lib.hid (show cI (x1,x2) (y1,y2)=c by unfold cI;simp only;rw [hc1,hc2,hc])
 have H1:=Lib.hid hc1
 have H2:=Lib.hid hc2
 have H3:=Lib.hid hc
 clear hc1 hc2 hc
 rw [HW.out]
 go_enter Tryz.func146,Tryz.ntmps146
 go_wp2
 have k0:((w.alloc (.cells #[.int .i64 x1,.int .i64 x2] 57)).alloc (.cells #[.int .i64 y1,.int .i64 y2] 57)).cell? ⟨w.heap.size,0,none⟩=some (.int .i64 x1)∧((w.alloc (.cells #[.int .i64 x1,.int .i64 x2] 57)).alloc (.cells #[.int .i64 y1,.int .i64 y2] 57)).cell? ⟨w.heap.size,1,none⟩=some (.int .i64 x2)∧((w.alloc (.cells #[.int .i64 x1,.int .i64 x2] 57)).alloc (.cells #[.int .i64 y1,.int .i64 y2] 57)).cell? ⟨w.heap.size + 1,0,none⟩=some (.int .i64 y1)∧((w.alloc (.cells #[.int .i64 x1,.int .i64 x2] 57)).alloc (.cells #[.int .i64 y1,.int .i64 y2] 57)).cell? ⟨w.heap.size + 1,1,none⟩=some (.int .i64 y2):=by simp
 go_region_held3 (fun w'=>w'.cell? ⟨w.heap.size,0,none⟩=some (.int .i64 x1)∧w'.cell? ⟨w.heap.size,1,none⟩=some (.int .i64 x2)∧w'.cell? ⟨w.heap.size + 1,0,none⟩=some (.int .i64 y1)∧w'.cell? ⟨w.heap.size + 1,1,none⟩=some (.int .i64 y2)) (first | exact k0 | go_keep) (first | (go_at_call 201;((with_reducible refine (cmp_as x1 y1 c1 _ H1.out).mono ?_);rintro r w' ⟨rfl,rfl⟩)) | (go_at_call 201;((with_reducible refine (cmp_as x2 y2 c2 _ H2.out).mono ?_);rintro r w' ⟨rfl,rfl⟩)) | (go_at_call 200;((refine (or_any c1 c2 c _ _ (by simp;exact (three_new _ _ _ _ _ _).1) (by simp;exact (three_new _ _ _ _ _ _).2) H3.out).mono ?_);rintro r w' ⟨rfl,rfl⟩)))
 go_wp2
 go_ret
 refine ⟨rfl,?_⟩
 first
   | exact (((Below.refl _ _).alloc (Nat.le_refl _) _).alloc (by simp) _).drew.alloc (by simp;omega) _
   | exact ((((Below.refl _ _).alloc (Nat.le_refl _) _).alloc (by simp) _).alloc (by simp;omega) _).drew
theorem idcmp_as (x1 x2 y1 y2 c:Int) (w:World) (h:cI (x1,x2) (y1,y2)=c):Calls Tryz.prog 146 #[.agg #[.int .i64 x1,.int .i64 x2],.agg #[.int .i64 y1,.int .i64 y2]] w fun e w'=>e=.returned (.int .i64 c)∧Below w.heap.size w w':=by
 subst h;exact idcmp_any (x1,x2) (y1,y2) w
end Go.Proofs.YtjkbmfpomgcblaaGreatDoor
namespace Go.Proofs.YtjkbmfpomgcblaaGreatDoor
open Go.RowKit
instance : Inhabited Wr := ⟨⟨0, 0, 0, ⟨#[]⟩, ⟨#[]⟩, 0⟩⟩
def wrsC (l:List Wr):List Value:=l.flatMap wrC
theorem wrsC_len (l:List Wr):(wrsC l).length=l.length * 6:=by
 induction l with
 | nil=>rfl
 | cons t r ih=>simp only [wrsC,List.flatMap_cons,List.length_append,List.length_cons] at ih ⊢;rw [ih];simp [wrC];omega
theorem wrsC_at (l:List Wr) (i j:Nat) (t:Wr) (h:l[i]? = some t) (hj:j < 6):(wrsC l)[i * 6 + j]? = (wrC t)[j]? := by
 induction l generalizing i with
 | nil=>simp at h
 | cons u r ih =>
   have hc:wrsC (u :: r)=wrC u ++ wrsC r:=by simp [wrsC]
   have h3:(wrC u).length=6:=rfl
   rw [hc]
   cases i with
   | zero =>
     obtain rfl:u=t:=by simpa using h
     rw [List.getElem?_append_left (by omega)]
     congr 1;omega
   | succ i =>
     rw [List.getElem?_append_right (by omega),h3,show (i + 1) * 6 + j - 6=i * 6 + j by omega]
     exact ih i (by simpa using h)
def ownsW (w:World) (base:Nat) (v:Value) (l:List Wr):Prop:=w.ownsRow base 59 6 v l.length (wrsC l)
theorem ownsW.alloc {w:World} {base:Nat} {v:Value} {l:List Wr} (h:ownsW w base v l) (o:Obj):ownsW (w.alloc o) base v l:=World.ownsRow.alloc h o
theorem ownsW.drew {w:World} {base:Nat} {v:Value} {l:List Wr} (h:ownsW w base v l):ownsW w.drew base v l:=World.ownsRow.drew h
theorem ownsW.drewN {w:World} {base:Nat} {v:Value} {l:List Wr} (h:ownsW w base v l) (n:Nat):ownsW (w.drewN n) base v l:=h
theorem ownsW.lt {w:World} {base:Nat} {v:Value} {l:List Wr} (h:ownsW w base v l):∀ k,v.ownBlock=some k→base≤k∧k < w.heap.size:=World.ownsRow.lt h
theorem ownsW.mono {w:World} {base base':Nat} {v:Value} {l:List Wr} (h:ownsW w base v l) (hb:base'≤base):ownsW w base' v l:=by
 obtain ⟨h0,h1⟩:=h
 refine ⟨h0,?_⟩
 rcases h1 with h1 | ⟨g,cap,cur,hv,hg,r⟩
 · exact .inl h1
 · exact .inr ⟨g,cap,cur,hv,Nat.le_trans hb hg,r⟩
theorem ownsW.below {w w':World} {base:Nat} {v:Value} {l:List Wr} (h:ownsW w base v l) (hb:Below w.heap.size w w'):ownsW w' base v l:=by
 refine World.ownsRow.kept h (row:=none) ⟨hb.os,hb.tape,hb.output,hb.size,fun k hk _=>hb.block k hk⟩ ?_
 cases hv:v.ownBlock with
 | none=>exact .inl rfl
 | some g=>exact .inr (by simp)
def IsWrs (w:World) (v:Value) (l:List Wr):Prop :=
 (∃ a c,v=.slice a 0 c∧l=[])∨∃ b off c,v=.slice (some ⟨b,off,none⟩) l.length c∧(0 < l.length∧l.length≤c)∧b < w.heap.size∧∀ j u,(wrsC l)[j]? = some u→w.cell? ⟨b,off + j,none⟩=some u
theorem ownsW.is {w:World} {base:Nat} {v:Value} {l:List Wr} (h:ownsW w base v l):IsWrs w v l:=by
 have hall:=h
 have hlt:=h.lt
 obtain ⟨h0,h1⟩:=h
 rcases h1 with ⟨rfl,hn⟩ | ⟨g,cap,cur,rfl,hb,hh,hc,hm,hs,ht⟩
 · exact .inl ⟨_,_,rfl,List.length_eq_zero_iff.1 hn⟩
 · by_cases hz:l.length=0
   · exact .inl ⟨_,_,by rw [hz],List.length_eq_zero_iff.1 hz⟩
   · refine .inr ⟨g,0,cap,rfl,⟨by omega,hc⟩,(hlt g rfl).2,fun j u hj=>?_⟩
     have hjl:j < l.length * 6:=by rw [←wrsC_len];exact (List.getElem?_eq_some_iff.1 hj).1
     rw [Nat.zero_add,World.ownsRow.cellAt hall j hjl]
     exact hj
theorem IsWrs.nil (w:World):IsWrs w (.slice none 0 0) []:=.inl ⟨_,_,rfl,rfl⟩
theorem IsWrs.below {w w':World} {v:Value} {l:List Wr} (h:IsWrs w v l) (hb:Below w.heap.size w w'):IsWrs w' v l:=by
 rcases h with ⟨a,c,h1,h2⟩ | ⟨b,off,c,h1,h0,h2,h3⟩
 · exact .inl ⟨a,c,h1,h2⟩
 · exact .inr ⟨b,off,c,h1,h0,Nat.lt_of_lt_of_le h2 hb.size,fun j u hj=>(hb.cell (p:=⟨b,off + j,none⟩) h2).trans (h3 j u hj)⟩
theorem IsWrs.alloc {w:World} {v:Value} {l:List Wr} (h:IsWrs w v l) (o:Obj):IsWrs (w.alloc o) v l:=h.below ((Below.refl _ _).alloc (Nat.le_refl _) o)
theorem IsWrs.drewN {w:World} {v:Value} {l:List Wr} (h:IsWrs w v l) (n:Nat):IsWrs (w.drewN n) v l:=h
theorem IsWrs.form {w:World} {v:Value} {l:List Wr} (h:IsWrs w v l):∃ a c,v=.slice a l.length c∧∀ i t,l[i]? = some t→∃ b off,a=some ⟨b,off,none⟩∧b < w.heap.size ∧
   w.cell? ⟨b,off + i * 6,none⟩=some (.int .i64 t.time)∧w.cell? ⟨b,off + i * 6 + 1,none⟩=some (.int .i64 t.rep)∧w.cell? ⟨b,off + i * 6 + 2,none⟩=some (.int .i64 t.kind) ∧
   w.cell? ⟨b,off + i * 6 + 3,none⟩=some (.string t.key)∧w.cell? ⟨b,off + i * 6 + 4,none⟩=some (.string t.value)∧w.cell? ⟨b,off + i * 6 + 5,none⟩=some (.int .i64 t.n):=by
 rcases h with ⟨a,c,rfl,rfl⟩ | ⟨b,off,c,rfl,h0,h2,h3⟩
 · exact ⟨a,c,rfl,fun i t h=>by simp at h⟩
 · refine ⟨_,_,rfl,fun i t h=>⟨b,off,rfl,h2,?_,?_,?_,?_,?_,?_⟩⟩
   · exact h3 _ _ ((wrsC_at l i 0 t h (by omega)).trans rfl)
   · exact h3 _ _ ((wrsC_at l i 1 t h (by omega)).trans rfl)
   · exact h3 _ _ ((wrsC_at l i 2 t h (by omega)).trans rfl)
   · exact h3 _ _ ((wrsC_at l i 3 t h (by omega)).trans rfl)
   · exact h3 _ _ ((wrsC_at l i 4 t h (by omega)).trans rfl)
   · exact h3 _ _ ((wrsC_at l i 5 t h (by omega)).trans rfl)
def wrBlk (w:World) (B:Nat) (t:Wr):Prop:=w.heap[B]? = some (.cells (wrC t).toArray 59 (0,0))
end Go.Proofs.YtjkbmfpomgcblaaGreatDoor
namespace Go.Proofs.YtjkbmfpomgcblaaGreatDoor
open Go.RowKit
def tailC (n k:Nat):Array Value:=((List.range 4).map fun i=>Value.int .u8 (if i < k then (n:Int) / 2 ^ (8 * i) % 256 else 0)).toArray
theorem tailC_size (n k:Nat):(tailC n k).size=4:=by simp [tailC]
theorem tailC_at (n k i:Nat) (h:i < 4):(tailC n k)[i]? = some (.int .u8 (if i < k then (n:Int) / 2 ^ (8 * i) % 256 else 0)):=by
 unfold tailC
 simp [h]
theorem tailC_set (n k:Nat) (hk:k < 4):(tailC n k).setIfInBounds k (.int .u8 ((n:Int) / 2 ^ (8 * k) % 256))=tailC n (k + 1):=by
 apply Array.ext_getElem?
 intro i
 rw [Array.getElem?_setIfInBounds,tailC_size]
 by_cases hi:i < 4
 · by_cases e:k=i
   · subst e;rw [if_pos rfl,if_pos hk,tailC_at _ _ k hi,if_pos (by omega)]
   · rw [if_neg e,tailC_at _ _ i hi,tailC_at _ _ i hi]
     by_cases h2:i < k
     · rw [if_pos h2,if_pos (by omega)]
     · rw [if_neg h2,if_neg (by omega)]
 · rw [Array.getElem?_eq_none (by rw [tailC_size];omega),Array.getElem?_eq_none (by rw [tailC_size];omega),if_neg (by omega)]
theorem tail4_at (n j:Nat) (h:j < (tail4 n).length):((tail4 n)[j].toNat:Int)=(n:Int) / 2 ^ (8 * j) % 256:=by
 have e:∀ m:Nat,((UInt8.ofNat m).toNat:Int)=((m % 256:Nat):Int):=fun m=>by simp
 match j,h with
 | 0,_=>show ((UInt8.ofNat n).toNat:Int)=_;rw [e];simp
 | 1,_=>show ((UInt8.ofNat (n / 256)).toNat:Int)=_;rw [e];simp
 | 2,_=>show ((UInt8.ofNat (n / 65536)).toNat:Int)=_;rw [e];simp
 | 3,_=>show ((UInt8.ofNat (n / 16777216)).toNat:Int)=_;rw [e];simp
 | j + 4,h=>exact absurd h (by simp [tail4])
theorem tail_conv (n:Nat) (w:World):(convert 60 9 (.slice (some ⟨w.heap.size,0,none⟩) 4 4)).run Tryz.prog (w.alloc (.cells (tailC n 4) 135))=.ok (.string ⟨(tail4 n).toArray⟩) (w.alloc (.cells (tailC n 4) 135)):=by
 refine run_convert_bytes_back _ _ _ _ _ _ (tail4 n) Tryz.underlying60 Tryz.underlying5 Tryz.underlying9 fun j hj=>?_
 have hadd:(⟨w.heap.size,0,none⟩:Addr).add j=⟨w.heap.size,j,none⟩:=by unfold Addr.add;split <;> simp_all
 have h4:j < 4:=hj
 rw [hadd,cell_of_row _ _ _ _ _ _ (heap_alloc_new w _),tailC_at _ _ _ h4,if_pos h4,tail4_at n j hj]
set_option maxRecDepth 100000 in
set_option maxHeartbeats 1000000 in
theorem tail_any (s:ByteArray) (w:World) (hs:s.size≤maxLen) :
   Calls Tryz.prog 60 #[.string s] w fun e w'=>e=.returned (.string ⟨(tail4 (sum s.data.toList)).toArray⟩)∧Below w.heap.size w w':=by
 have hl:=sum_lt s.data.toList
 go_enter Tryz.func60,Tryz.ntmps60
 go_wp2_with fail
 refine (sum_any _ _ hs).mono ?_
 rintro e w' ⟨rfl,rfl⟩
 obtain ⟨n,hn⟩:∃ n,n=sum s.data.toList:=⟨_,rfl⟩
 rw [←hn] at hl ⊢
 have HN:=Lib.hid hn
 clear hn
 go_wp2
 go_loopw [8] (fun i wr=>∃ k:Nat,k≤4∧i=.int .i64 k∧wr=w.alloc (.cells (tailC n k) 135)) (fun i _=>4 - (intOf i).toNat)
 case atStart=>exact ⟨0,by omega,rfl,rfl⟩
 case round =>
   obtain ⟨k,hk,rfl,rfl⟩:=hrel
   by_cases hlt:k < 4
   · have hc:=tailC_at n k k hlt
     rw [if_neg (Nat.lt_irrefl k)] at hc
     have hz:=tailC_set n k hlt
     go_wp2
     go_roundw
     case rel=>exact ⟨k + 1,by omega,by go_num,rfl⟩
     case measure=>simp [intOf];omega
   · obtain rfl:k=4:=by omega
     have hconv:=tail_conv n w
     go_wp2
     go_ret
     exact ⟨by rw [HN.out];rfl,(Below.refl _ _).alloc (Nat.le_refl _) _⟩
def sealB (s:ByteArray):ByteArray:=s ++ ⟨(tail4 (sum s.data.toList)).toArray⟩
theorem sealB_data (s:ByteArray):(sealB s).data.toList=sealL s.data.toList:=by unfold sealB sealL;simp
set_option maxRecDepth 100000 in
set_option maxHeartbeats 1000000 in
theorem seal_any (s:ByteArray) (w:World) (hs:s.size≤140737488351232) :
   Calls Tryz.prog 27 #[.string s] w fun e w'=>e=.returned (.string (sealB s))∧Below w.heap.size w w':=by
 have hz:(⟨(tail4 (sum s.data.toList)).toArray⟩:ByteArray).size=4:=rfl
 go_enter Tryz.func27,Tryz.ntmps27
 go_wp2_with fail
 refine (tail_any s _ (by unfold maxLen;omega)).mono ?_
 rintro e w1 ⟨rfl,hb1⟩
 have HB:=Lib.hid hb1
 clear hb1
 go_wp2
 go_ret
 exact ⟨rfl,HB.out⟩
end Go.Proofs.YtjkbmfpomgcblaaGreatDoor
