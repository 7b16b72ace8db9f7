import Derived.Test.YtjkbmfpomgcblaaGreatDoorKw09
import Derived.Test.YtjkbmfpomgcblaaGreatDoorKw06
import Derived.Deep.RegionWith
namespace Go.Proofs.YtjkbmfpomgcblaaGreatDoor
open Go.RowKit
def numB (K N:Int):ByteArray:=if K=3 then ⟨(putL (zigN N).toNat).toArray⟩ else if K=4 then ⟨(putL N.toNat).toArray⟩ else ⟨#[]⟩
def valB (K:Int) (val:ByteArray):ByteArray:=if hasV K=true then spanB val else ⟨#[]⟩
def tailB (K:Int) (val:ByteArray) (N:Int):ByteArray:=numB K N ++ valB K val
end Go.Proofs.YtjkbmfpomgcblaaGreatDoor
namespace Go.Proofs.YtjkbmfpomgcblaaGreatDoor
open Go.RowKit
theorem bldLiesW:liesAt Tryz.prog Tryz.prog.depth 123 (2 / Tryz.prog.cellsOf 123) 0 64 1=true:=by kernel_rfl
def isBldW (w:World) (B b:Nat) (l:List UInt8):Prop:=Lib.IsBuilder 123 5 B b (Lib.byteCells l) w
theorem wbld_new (w:World) (B:Nat) (h:B≤w.heap.size):isBldW (w.alloc (.cells #[.pointer none,.slice none 0 0] 123)) B w.heap.size [] :=
 .inl ⟨h,.slice none 0 0,heap_alloc_new w _,World.ownsRow_nil _ _ _ _,by simp [Value.ownBlock]⟩
theorem isBldW.below {w w':World} {B b:Nat} {l:List UInt8} (h:isBldW w B b l) (hb:Below w.heap.size w w'):isBldW w' B b l:=by
 have hone:∀ {p:Value},Lib.BuilderAt 123 5 B b p (Lib.byteCells l) w→Lib.BuilderAt 123 5 B b p (Lib.byteCells l) w':=by
   intro p h
   have hlt:=h.lt
   obtain ⟨hB,v,hbk,hown,hne⟩:=h
   refine ⟨hB,v,(hb.block b hlt).trans hbk,?_,hne⟩
   refine World.ownsRow.kept hown (row:=none) ⟨hb.os,hb.tape,hb.output,hb.size,fun k hk _=>hb.block k hk⟩ ?_
   cases hv:v.ownBlock with
   | none=>exact .inl rfl
   | some g=>exact .inr (by simp)
 rcases h with h | h
 · exact .inl (hone h)
 · exact .inr (hone h)
theorem isBldW.lt {w:World} {B b:Nat} {l:List UInt8} (h:isBldW w B b l):B≤b∧b < w.heap.size:=by
 rcases h with h | h
 · exact ⟨h.1,h.lt⟩
 · exact ⟨h.1,h.lt⟩
theorem isBldW.alloc {w:World} {B b:Nat} {l:List UInt8} (h:isBldW w B b l) (o:Obj):isBldW (w.alloc o) B b l:=h.below ((Below.refl _ _).alloc (Nat.le_refl _) _)
set_option maxRecDepth 100000 in
set_option maxHeartbeats 1000000 in
theorem wcopy_fresh (b:Nat) (w:World) (h0:w.cell? ⟨b,0,none⟩=some (.pointer none)) (hsh:w.shape? b=some (123,2)) (hfz:w.frozen? ⟨b,0,none⟩=false) :
   Calls Tryz.prog 92 #[.pointer (some ⟨b,0,none⟩)] w fun e w'=>e=.returned (.tuple #[])∧w'=w.setCell ⟨b,0,none⟩ (.pointer (some ⟨b,0,none⟩)):=by
 obtain ⟨j,hj,hjs⟩:=Option.map_eq_some_iff.1 bldSize
 go_enter Tryz.func92,Tryz.ntmps92
 go_wp2
 rw [Lib.run_to_unsafe w ⟨b,0,none⟩ Tryz.underlying62 Tryz.underlying170 hj (by rw [hjs];decide) hsh (Nat.zero_lt_succ 1)]
 simp only [Result.andThen]
 rw [Oper.upon_value]
 go_wp2
 rw [run_callFunc_extern Tryz.func148 (by kernel_rfl) (by kernel_rfl) (by kernel_rfl) (e:=Extern.AbiNoEscape.same) (by kernel_rfl)]
 rw [Lib.run_noEscape]
 simp only [Result.andThen]
 rw [Oper.upon_value]
 go_wp2
 rw [Lib.run_from_unsafe w ⟨b,0,none⟩ Tryz.underlying170 Tryz.underlying62 hj hsh bldLiesW]
 simp only [Result.andThen]
 rw [Oper.upon_value]
 go_wp2
 go_end0
 exact ⟨rfl,rfl⟩
theorem wcopy_any (B b:Nat) (l:List UInt8) (w:World) (h:isBldW w B b l) :
   Calls Tryz.prog 92 #[.pointer (some ⟨b,0,none⟩)] w fun e w'=>e=.returned (.tuple #[])∧Lib.BuilderAt 123 5 B b (.pointer (some ⟨b,0,none⟩)) (Lib.byteCells l) w'∧Below B w w'∧NonB b w w'∧w'.heap.size=w.heap.size:=by
 rcases h with h | h
 · refine (wcopy_fresh b w h.cell0 h.shape h.frozen0).mono ?_
   rintro e w' ⟨rfl,rfl⟩
   exact ⟨rfl,h.used _,(Below.refl B w).setCell (p:=⟨b,0,none⟩) h.1 _,fun k _ hk _=>heap_setCell_other _ _ _ _ (fun e=>hk e),by simp⟩
 · refine (copy_used b w h.cell0).mono ?_
   rintro e w' ⟨rfl,rfl⟩
   exact ⟨rfl,h,Below.refl B _,fun k _ _ _=>rfl,rfl⟩
set_option maxRecDepth 100000 in
set_option maxHeartbeats 2000000 in
theorem wbld_write (B b:Nat) (l:List UInt8) (s:ByteArray) (w:World) (h:isBldW w B b l) (hlen:l.length + s.size≤140737488355328) (hBw:B≤w.heap.size) :
   Calls Tryz.prog 44 #[.pointer (some ⟨b,0,none⟩),.string s] w fun e w'=>e=.returned (.tuple #[.int .i64 s.size,.nilIface])∧isBldW w' B b (l ++ s.data.toList)∧Below B w w'∧NonB b w w':=by
 obtain ⟨i0,hi,hz0,hz1,hz2⟩:=info_parts info_u8
 have hbl:(Lib.byteCells l).length=l.length:=by simp [Lib.byteCells]
 go_enter Tryz.func44,Tryz.ntmps44
 go_wp2_with fail
 refine (wcopy_any B b l _ h).mono ?_
 rintro e w1 ⟨rfl,h1,hb1,hn1,hs1⟩
 have HN1:=Lib.hid hn1
 have HS1:=Lib.hid hs1
 obtain ⟨hB,v,hbk,hown,hne⟩:=h1
 have c0:w1.cell? ⟨b,0,none⟩=some (.pointer (some ⟨b,0,none⟩)):=by rw [Lib.cell_of_heap hbk];rfl
 have c1:w1.cell? ⟨b,1,none⟩=some v:=by rw [Lib.cell_of_heap hbk];rfl
 clear hn1 hs1
 go_wp2_with (at_builtin;refine Lib.wpList_append_own_string _ rfl _ _ 60 9 rfl B 5 i0 Tryz.underlying60 Tryz.underlying9 hi hz0 hz1 hz2 _ _ _ rfl hown s rfl ?c3 ?c4 ?c5 ?_)
 case c3=>rw [hbl];unfold maxLen;omega
 case c4=>rw [hbl];omega
 case c5=>have:=hb1.size;omega
 intro v' w2 hown' hgrow _
 have hlt:b < w1.heap.size:=by
   rcases Nat.lt_or_ge b w1.heap.size with h' | h'
   · exact h'
   · simp [Array.getElem?_eq_none h'] at hbk
 have hb2:w2.heap[b]? = some (.cells #[.pointer (some ⟨b,0,none⟩),v] 123 (0,0)):=by
   rw [hgrow.block b hlt (fun e=>hne e.symm)]
   exact hbk
 have d0:w2.cell? ⟨b,0,none⟩=some (.pointer (some ⟨b,0,none⟩)):=by rw [Lib.cell_of_heap hb2];rfl
 have d1:w2.cell? ⟨b,1,none⟩=some v:=by rw [Lib.cell_of_heap hb2];rfl
 have f1:w2.frozen? ⟨b,1,none⟩=false:=Lib.frozen_of_heap hb2 1
 obtain ⟨ao,n',cap,rfl⟩:∃ ao n' cap,v'=.slice ao n' cap:=by
   rcases hown'.2 with ⟨hv,_⟩ | ⟨g,cap,cur,hv,_⟩
   · exact ⟨_,_,_,hv⟩
   · exact ⟨_,_,_,hv⟩
 have HO:Hid (w2.ownsRow B 5 1 (.slice ao n' cap) (Lib.byteCells (l ++ s.data.toList)).length (Lib.byteCells (l ++ s.data.toList))):=by
   have h:w2.ownsRow B 5 1 (.slice ao n' cap) (Lib.byteCells (l ++ s.data.toList)).length (Lib.byteCells (l ++ s.data.toList)):=by
     have e:Lib.byteCells (l ++ s.data.toList)=Lib.byteCells l ++ Lib.strCells s:=by simp [Lib.byteCells,Lib.strCells]
     rw [e,List.length_append,Lib.strCells_length,hbl]
     exact hown'
   exact h
 have HNB:Hid (NonB b w1 w2):=Lib.hid (show NonB b w1 w2 from fun k hk hkb hu=>hgrow.block k hk (fun e=>by
   rcases hown.2 with ⟨hv,_⟩ | ⟨g,cap',cur,hv,_,hh,_⟩
   · rw [hv] at e;cases e
   · rw [hv] at e
     have:k=g:=by simpa [Value.ownBlock] using e
     subst this
     exact hu _ _ hh))
 have HSZ:Hid (w1.heap.size≤w2.heap.size):=Lib.hid hgrow.size
 clear hown'
 go_wp2
 go_ret2
 refine ⟨rfl,.inr ?_,?_,?_⟩
 · exact Lib.BuilderAt.put (T:=123) (e:=5) hB hb2 HO.out (by decide)
 · exact (hb1.grown hgrow (by have:=hb1.size;omega) (fun k hk=>(hown.lt k hk).1)).setCell (p:=⟨b,1,none⟩) hB _
 · refine ((HN1.out.trans HNB.out (by rw [HS1.out];exact Nat.le_refl _)).trans (fun k _ hk _=>heap_setCell_other _ _ _ _ (fun e=>hk e)) ?_)
   rw [←HS1.out];exact HSZ.out
set_option maxRecDepth 100000 in
set_option maxHeartbeats 2000000 in
theorem wbld_byte (B b:Nat) (l:List UInt8) (c:UInt8) (w:World) (h:isBldW w B b l) (hlen:l.length + 1≤140737488355328) (hBw:B≤w.heap.size) :
   Calls Tryz.prog 109 #[.pointer (some ⟨b,0,none⟩),.int .u8 (c.toNat:Int)] w fun e w'=>e=.returned .nilIface∧isBldW w' B b (l ++ [c])∧Below B w w'∧NonB b w w':=by
 obtain ⟨i0,hi,hz0,hz1,hz2⟩:=info_parts info_u8
 have hbl:(Lib.byteCells l).length=l.length:=by simp [Lib.byteCells]
 go_enter Tryz.func109,Tryz.ntmps109
 go_wp2_with fail
 refine (wcopy_any B b l _ h).mono ?_
 rintro e w1 ⟨rfl,h1,hb1,hn1,hs1⟩
 have HN1:=Lib.hid hn1
 have HS1:=Lib.hid hs1
 obtain ⟨hB,v,hbk,hown,hne⟩:=h1
 have c0:w1.cell? ⟨b,0,none⟩=some (.pointer (some ⟨b,0,none⟩)):=by rw [Lib.cell_of_heap hbk];rfl
 have c1:w1.cell? ⟨b,1,none⟩=some v:=by rw [Lib.cell_of_heap hbk];rfl
 clear hn1 hs1
 have hownB:ownsB w1 B v l:=by have h:=hown;rw [hbl] at h;exact h
 go_wp2_with (at_builtin;refine wpList_append_byte rfl _ _ rfl B v l rfl (hownB.alloc _) ⟨w1.heap.size,0,none⟩ 1 rfl (c.toNat:Int) c ?c3 rfl ?c4 ?c5 ?_)
 case c3=>simp [Addr.add]
 case c4=>omega
 case c5=>have:=hb1.size;simp;omega
 intro v' w2 hown' hgrow0 _
 have hgrow:w1.grownBy w2 v.ownBlock:=⟨hgrow0.os,hgrow0.tape,hgrow0.output,Nat.le_trans (by simp) hgrow0.size,fun k hk hne=>(hgrow0.block k (by simp;omega) hne).trans (Below.heap_alloc _ _ _ hk)⟩
 have hlt:b < w1.heap.size:=by
   rcases Nat.lt_or_ge b w1.heap.size with h' | h'
   · exact h'
   · simp [Array.getElem?_eq_none h'] at hbk
 have hb2:w2.heap[b]? = some (.cells #[.pointer (some ⟨b,0,none⟩),v] 123 (0,0)):=by
   rw [hgrow.block b hlt (fun e=>hne e.symm)]
   exact hbk
 have d0:w2.cell? ⟨b,0,none⟩=some (.pointer (some ⟨b,0,none⟩)):=by rw [Lib.cell_of_heap hb2];rfl
 have d1:w2.cell? ⟨b,1,none⟩=some v:=by rw [Lib.cell_of_heap hb2];rfl
 have f1:w2.frozen? ⟨b,1,none⟩=false:=Lib.frozen_of_heap hb2 1
 obtain ⟨ao,n',cap,rfl⟩:∃ ao n' cap,v'=.slice ao n' cap:=by
   rcases hown'.2 with ⟨hv,_⟩ | ⟨g,cap,cur,hv,_⟩
   · exact ⟨_,_,_,hv⟩
   · exact ⟨_,_,_,hv⟩
 have HO:Hid (w2.ownsRow B 5 1 (.slice ao n' cap) (Lib.byteCells (l ++ [c])).length (Lib.byteCells (l ++ [c]))):=by
   have h:w2.ownsRow B 5 1 (.slice ao n' cap) (Lib.byteCells (l ++ [c])).length (Lib.byteCells (l ++ [c])):=by
     have e:(Lib.byteCells (l ++ [c])).length=(l ++ [c]).length:=by simp [Lib.byteCells]
     rw [e]
     exact hown'
   exact h
 have HNB:Hid (NonB b w1 w2):=Lib.hid (show NonB b w1 w2 from fun k hk hkb hu=>hgrow.block k hk (fun e=>by
   rcases hown.2 with ⟨hv,_⟩ | ⟨g,cap',cur,hv,_,hh,_⟩
   · rw [hv] at e;cases e
   · rw [hv] at e
     have:k=g:=by simpa [Value.ownBlock] using e
     subst this
     exact hu _ _ hh))
 have HSZ:Hid (w1.heap.size≤w2.heap.size):=Lib.hid hgrow.size
 clear hown' hownB
 go_wp2
 go_ret
 refine ⟨rfl,.inr ?_,?_,?_⟩
 · exact Lib.BuilderAt.put (T:=123) (e:=5) hB hb2 HO.out (by decide)
 · exact (hb1.grown hgrow (by have:=hb1.size;omega) (fun k hk=>(hown.lt k hk).1)).setCell (p:=⟨b,1,none⟩) hB _
 · refine ((HN1.out.trans HNB.out (by rw [HS1.out];exact Nat.le_refl _)).trans (fun k _ hk _=>heap_setCell_other _ _ _ _ (fun e=>hk e)) ?_)
   rw [←HS1.out];exact HSZ.out
set_option maxRecDepth 100000 in
theorem wbld_len (B b:Nat) (l:List UInt8) (w:World) (h:isBldW w B b l) :
   Calls Tryz.prog 111 #[.pointer (some ⟨b,0,none⟩)] w fun e w'=>e=.returned (.int .i64 (l.length:Int))∧w=w':=by
 have hbl:(Lib.byteCells l).length=l.length:=by simp [Lib.byteCells]
 obtain ⟨p,hB,v,hbk,hown,hne⟩:∃ p,Lib.BuilderAt 123 5 B b p (Lib.byteCells l) w:=by
   rcases h with h | h
   · exact ⟨_,h⟩
   · exact ⟨_,h⟩
 have c1:w.cell? ⟨b,1,none⟩=some v:=by rw [Lib.cell_of_heap hbk];rfl
 obtain ⟨a,cp,rfl⟩:∃ a cp,v=.slice a l.length cp:=by
   rcases hown.2 with ⟨hv,h0⟩ | ⟨g,cap,cur,hv,_⟩
   · exact ⟨none,0,by rw [hv];rw [hbl] at h0;rw [h0]⟩
   · exact ⟨_,_,by rw [hv,hbl]⟩
 generalize l.length=n at c1 ⊢
 clear hown hbk hne hbl h
 go_enter Tryz.func111,Tryz.ntmps111
 go_wp2
 go_ret
 exact ⟨rfl,rfl⟩
set_option maxRecDepth 100000 in
set_option maxHeartbeats 2000000 in
theorem wbld_string (B b:Nat) (l:List UInt8) (w:World) (h:isBldW w B b l) (h0:l≠[]) :
   Calls Tryz.prog 49 #[.pointer (some ⟨b,0,none⟩)] w fun e w'=>e=.returned (.string ⟨l.toArray⟩)∧Below B w w':=by
 have hbl:(Lib.byteCells l).length=l.length:=by simp [Lib.byteCells]
 obtain ⟨p,hB,v,hbk,hown,hne⟩:∃ p,Lib.BuilderAt 123 5 B b p (Lib.byteCells l) w:=by
   rcases h with h | h
   · exact ⟨_,h⟩
   · exact ⟨_,h⟩
 rw [hbl] at hown
 have hpos:0 < l.length:=List.length_pos_iff.2 h0
 obtain ⟨g,cap,cur,hv,hbg,hg,hcl,hcm,hcs⟩:∃ g cap cur,v=.slice (some ⟨g,0,none⟩) l.length cap∧B≤g∧w.heap[g]? = some (.cells cur 5 (0,0))∧l.length≤cap∧cap≤maxLen∧cur.size=cap * 1:=by
   rcases hown.2 with ⟨hv,hn⟩ | ⟨g,cap,cur,hv,hb,hh,hc,hm,hs,_⟩
   · exact absurd hn (by omega)
   · exact ⟨g,cap,cur,hv,hb,hh,hc,hm,hs⟩
 subst hv
 have c1:w.drew.cell? ⟨b,1,none⟩=some (.slice (some ⟨g,0,none⟩) l.length cap):=by
   have:w.drew.heap[b]? = some (.cells #[p,.slice (some ⟨g,0,none⟩) l.length cap] 123 (0,0)):=hbk
   rw [Lib.cell_of_heap this];rfl
 have hSD:(Builtin.unsafeSliceData_ #[60] 114 #[.slice (some ⟨g,0,none⟩) l.length cap]).run Tryz.prog w.drew=.ok (.pointer (some ⟨g,0,none⟩)) w.drew :=
   Lib.run_unsafeSliceData_row _ _ _ _ _ _ (by omega)
 have hUS:(Builtin.unsafeString_ #[114,3] 9 #[.pointer (some ⟨g,0,none⟩),.int .i64 l.length]).run Tryz.prog w.drew=.ok (.string ⟨l.toArray⟩) (w.drew.freeze ⟨g,0,none⟩ l.length):=by
   refine Lib.run_unsafeString_row w.drew 114 3 9 5 Tryz.underlying114 (by kernel_rfl) g cur.size (by have hg':w.drew.heap[g]? = some (.cells cur 5 (0,0)):=hg;simp [World.shape?,hg']) l h0 (by omega) (by unfold maxLen at hcm;omega) ?_
   intro j x hx
   have:=hown.cells (g:=g) rfl j (.int .u8 x.toNat) (by simp [Lib.byteCells,hx])
   exact this
 clear hown hcl hcm hpos hcs
 go_enter Tryz.func49,Tryz.ntmps49
 go_wp2
 go_region
 all_goals (go_wp2;go_ret;exact ⟨rfl,Lib.below_freeze (Below.drew (Below.refl B w)) (p:=⟨g,0,none⟩) hbg _⟩)
end Go.Proofs.YtjkbmfpomgcblaaGreatDoor
namespace Go.Proofs.YtjkbmfpomgcblaaGreatDoor
open Go.RowKit
set_option maxRecDepth 100000 in
theorem rspan_ok (s:ByteArray) (w:World) (hs:s.size≤2000) :
   Calls Tryz.prog 64 #[.string s] w fun r w'=>r=.returned (.tuple #[.string (spanB s),.int .i64 0])∧Below w.heap.size w w':=by
 have hl:=putL_le10 (n:=s.size) (by omega)
 have HP:Hid (spanB s=⟨(putL s.size).toArray⟩ ++ s):=rfl
 go_enter Tryz.func64,Tryz.ntmps64
 go_wp2_with (go_at_call 63;refine (rvary_any s.size _ (by omega)).mono ?_;rintro r w1 ⟨rfl,hb1⟩)
 go_ret2
 exact ⟨by rw [HP.out];rfl,by assumption⟩
end Go.Proofs.YtjkbmfpomgcblaaGreatDoor
namespace Go.Proofs.YtjkbmfpomgcblaaGreatDoor
open Go.RowKit
theorem info_run:(Tryz.prog.info? 22).map (fun i=>(i.zero,i.size,i.bytes))=some (some (.slice none 0 0),1,24):=by kernel_rfl
def ownsR (w:World) (base:Nat) (v:Value) (l:List Value):Prop:=w.ownsRow base 22 1 v l.length l
theorem ownsR_nil (w:World) (base:Nat):ownsR w base (.slice none 0 0) []:=World.ownsRow_nil _ _ _ _
theorem ownsR.alloc {w:World} {base:Nat} {v:Value} {l:List Value} (h:ownsR w base v l) (o:Obj):ownsR (w.alloc o) base v l:=World.ownsRow.alloc h o
theorem ownsR.drewN {w:World} {base:Nat} {v:Value} {l:List Value} (h:ownsR w base v l) (n:Nat):ownsR (w.drewN n) base v l:=h
theorem ownsR.lt {w:World} {base:Nat} {v:Value} {l:List Value} (h:ownsR w base v l):∀ k,v.ownBlock=some k→base≤k∧k < w.heap.size:=World.ownsRow.lt h
theorem ownsR.below {w w':World} {base:Nat} {v:Value} {l:List Value} (h:ownsR w base v l) (hb:Below w.heap.size w w'):ownsR w' base v l:=by
 refine World.ownsRow.kept h (row:=none) ⟨hb.os,hb.tape,hb.output,hb.size,fun k hk _=>hb.block k hk⟩ ?_
 cases hv:v.ownBlock with
 | none=>exact .inl rfl
 | some g=>exact .inr (by simp)
theorem ownsR.forms {w:World} {base:Nat} {v:Value} {l:List Value} (h:ownsR w base v l) :
   (v=.slice none 0 0∧l=[])∨∃ g cap,v=.slice (some ⟨g,0,none⟩) l.length cap∧base≤g∧g < w.heap.size∧(∃ cur,w.heap[g]? = some (.cells cur 22 (0,0)))∧∀ j u,l[j]? = some u→w.cell? ⟨g,j,none⟩=some u:=by
 have hall:=h
 obtain ⟨h0,h1⟩:=h
 rcases h1 with ⟨rfl,hn⟩ | ⟨g,cap,cur,rfl,hb,hh,hc,hm,hs,ht⟩
 · exact .inl ⟨rfl,List.length_eq_zero_iff.1 hn⟩
 · refine .inr ⟨g,cap,rfl,hb,(World.ownsRow.lt hall g rfl).2,⟨cur,hh⟩,fun j u hj=>?_⟩
   have hjl:j < l.length:=(List.getElem?_eq_some_iff.1 hj).1
   rw [World.ownsRow.cellAt hall j (by omega)]
   exact hj
theorem wpList_append_run {w:World} {ops:Array Oper} {rest:List Oper} {o:Oper} {a:Act} {Q:Exit→Act→World→Prop} (hgd:o.guard=none) (s x:Operand)
   (ho:o.op=.call { callee:=.builtin .append,args:=#[s,x],argTypes:=#[203,203] })
   (base:Nat) (v:Value) (l:List Value) (hs:a.eval s=v) (hown:ownsR w base v l)
   (ad:Addr) (c:Nat) (hx:a.eval x=.slice (some ad) 1 c) (d:Value) (hd:∃ a n m,d=.slice a n m) (hcell:w.cell? (ad.add 0)=some d)
   (hlen:l.length + 1≤1000000) (hbase:base≤w.heap.size)
   (h:∀ g cap w',ownsR w' base (.slice (some ⟨g,0,none⟩) (l.length + 1) cap) (l ++ [d])→w.grownBy w' v.ownBlock→wpList Tryz.prog ops Q rest (a.put o.dst (.slice (some ⟨g,0,none⟩) (l.length + 1) cap)) w'):wpList Tryz.prog ops Q (o :: rest) a w:=by
 obtain ⟨i0,hi,hz0,hz1,hz2⟩:=info_parts info_run
 refine wpList_append_lies w hgd s x 203 ho base 22 i0 (.slice none 0 0) 1 24 Tryz.underlying203 hi hz0 hz1 hz2 rfl (by decide) v l.length l hs hown ad 1 c [d] hx rfl ?_ ?_ (by decide) (by unfold maxLen;omega) (by omega) hbase _ rfl ?_
 · intro j u hj
   match j,hj with
   | 0,hj=>simp at hj;subst hj;exact hcell
 · intro u hu;simp at hu;subst hu;obtain ⟨a,n,m,rfl⟩:=hd;rfl
 · intro g cap w' h1 h2 _ _
   refine h g cap w' ?_ h2
   unfold ownsR
   rw [List.length_append]
   exact h1
def areE (w:World):List Value→List (List Ent)→Prop
 | [],[]=>True
 | v :: vs,r :: rs=>IsEnts w v r∧areE w vs rs
 | _,_=>False
theorem areE_len {w:World} {vs:List Value}:∀ {rs:List (List Ent)},areE w vs rs→vs.length=rs.length:=by
 induction vs with
 | nil=>intro rs h;cases rs with
   | nil=>rfl
   | cons r rs=>exact h.elim
 | cons v vs ih=>intro rs h;cases rs with
   | nil=>exact h.elim
   | cons r rs=>simp [ih h.2]
theorem areE_snoc {w:World} {vs:List Value} {v:Value} {r:List Ent} (hv:IsEnts w v r):∀ {rs:List (List Ent)},areE w vs rs→areE w (vs ++ [v]) (rs ++ [r]):=by
 induction vs with
 | nil=>intro rs h;cases rs with
   | nil=>exact ⟨hv,trivial⟩
   | cons r rs=>exact h.elim
 | cons v vs ih=>intro rs h;cases rs with
   | nil=>exact h.elim
   | cons r rs=>exact ⟨h.1,ih h.2⟩
theorem areE_at {w:World} {vs:List Value}:∀ {rs:List (List Ent)} {i:Nat} {r:List Ent},areE w vs rs→rs[i]? = some r→∃ v,vs[i]? = some v∧IsEnts w v r:=by
 induction vs with
 | nil=>intro rs i r h hi;cases rs with
   | nil=>simp at hi
   | cons r rs=>exact h.elim
 | cons v vs ih=>intro rs i r h hi;cases rs with
   | nil=>exact h.elim
   | cons r rs=>cases i with
     | zero=>simp at hi;subst hi;exact ⟨v,by simp,h.1⟩
     | succ i=>simp at hi;obtain ⟨u,h1,h2⟩:=ih h.2 hi;exact ⟨u,by simpa using h1,h2⟩
end Go.Proofs.YtjkbmfpomgcblaaGreatDoor
namespace Go.Proofs.YtjkbmfpomgcblaaGreatDoor
open Go.RowKit
def tailF (T R K:Int) (key val:ByteArray) (N:Int):ByteArray×Nat:=if wriE T R K key val N=0 then (tailB K val N,0) else (⟨#[]⟩,wriE T R K key val N)
theorem tailF_bad {T R K:Int} {key val:ByteArray} {N:Int} (h:wriE T R K key val N≠0):tailF T R K key val N=(⟨#[]⟩,wriE T R K key val N):=if_neg h
theorem tailF_ok {T R K:Int} {key val:ByteArray} {N:Int} (h:wriE T R K key val N=0):tailF T R K key val N=(tailB K val N,0):=if_pos h
theorem errV_bad {e:Nat} (h:e≠0):errV e=.iface 44 (.int .i64 e):=by unfold errV;rw [if_neg h]
theorem zigN_of {N:Int} (h0 : -1125899906842624≤N) (h1:N≤1125899906842624):0≤zigN N∧zigN N≤2251799813685249:=by unfold zigN;split <;> omega
theorem numB_size {K N:Int} (h:fitsN K N=true):(numB K N).size≤10:=by
 unfold numB
 unfold fitsN at h
 by_cases h3:K=3
 · rw [if_pos h3] at h ⊢
   simp only [Bool.and_eq_true,decide_eq_true_eq] at h
   have:=zigN_of h.1 h.2
   rw [bs_size];exact putL_le10 (by omega)
 · rw [if_neg h3] at h ⊢
   by_cases h4:K=4
   · rw [if_pos h4] at h ⊢
     simp only [Bool.and_eq_true,decide_eq_true_eq] at h
     rw [bs_size];exact putL_le10 (by omega)
   · rw [if_neg h4];decide
theorem spanB_le {s:ByteArray} (h:s.size≤300):(spanB s).size≤310:=by
 rw [spanB_size];have:=putL_le10 (n:=s.size) (by omega);omega
set_option maxRecDepth 100000 in
set_option maxHeartbeats 1000000 in
theorem wnum_any (T R K:Int) (key val:ByteArray) (N:Int) (w:World) (h:fitsN K N=true) :
   Calls Tryz.prog 149 #[.agg #[.int .i64 T,.int .i64 R,.int .i64 K,.string key,.string val,.int .i64 N]] w fun e w'=>e=.returned (.string (numB K N))∧Below w.heap.size w w':=by
 unfold numB
 unfold fitsN at h
 by_cases h3:K=3
 · subst h3
   rw [if_pos rfl] at h ⊢
   simp only [Bool.and_eq_true,decide_eq_true_eq] at h
   obtain ⟨z0,z1⟩:=zigN_of h.1 h.2
   obtain ⟨n0,n1⟩:=h
   go_enter Tryz.func149,Tryz.ntmps149
   go_wp2_with fail
   refine (zig_any N _ (by omega) (by omega)).mono ?_
   rintro r w' ⟨rfl,rfl⟩
   go_wp2_with fail
   refine (put_any (zigN N) _ z0 (by omega)).mono ?_
   rintro r w2 ⟨rfl,hb2⟩
   have HB2:=Lib.hid (((Below.refl _ _).alloc (Nat.le_refl _) _).trans (hb2.mono (by simp)))
   clear hb2
   go_wp2
   go_ret
   exact ⟨rfl,HB2.out⟩
 · rw [if_neg h3] at h ⊢
   have b1:(K == 3)=false:=by simpa using h3
   by_cases h4:K=4
   · subst h4
     rw [if_pos rfl] at h ⊢
     simp only [Bool.and_eq_true,decide_eq_true_eq] at h
     obtain ⟨n0,n1⟩:=h
     have hw:IntKind.u64.wrap N=N:=IntWalk.u64_in N ⟨by omega,by omega⟩
     go_enter Tryz.func149,Tryz.ntmps149
     go_wp2_with fail
     refine (put_any N _ n0 (by omega)).mono ?_
     rintro r w2 ⟨rfl,hb2⟩
     have HB2:=Lib.hid (((Below.refl _ _).alloc (Nat.le_refl _) _).trans (hb2.mono (by simp)))
     clear hb2
     go_wp2
     go_ret
     exact ⟨rfl,HB2.out⟩
   · rw [if_neg h4]
     have b4:(K == 4)=false:=by simpa using h4
     go_enter Tryz.func149,Tryz.ntmps149
     go_wp2
     go_ret
     exact ⟨rfl,(Below.refl _ _).alloc (Nat.le_refl _) _⟩
def textV (r:ByteArray×Nat):Value:=.tuple #[.string r.1,errV r.2]
set_option maxRecDepth 100000 in
set_option maxHeartbeats 4000000 in
theorem wtail_any (T R K:Int) (key val:ByteArray) (N:Int) (w:World) (hk:key.size≤140737488351232) (hv:val.size≤140737488351232) :
   Calls Tryz.prog 94 #[.agg #[.int .i64 T,.int .i64 R,.int .i64 K,.string key,.string val,.int .i64 N]] w fun e w'=>e=.returned (textV (tailF T R K key val N))∧Below w.heap.size w w':=by
 have HN0:=Lib.hid (wrAt_new w T R K key val N 59)
 obtain ⟨E,hE⟩:∃ E,wriE T R K key val N=E:=⟨_,rfl⟩
 have HE:=Lib.hid hE
 clear hE
 go_enter Tryz.func94,Tryz.ntmps94
 go_wp2_with fail
 refine (wright_any T R K key val N _ hk hv).mono ?_
 rintro r w1 ⟨rfl,hb1⟩
 rw [HE.out]
 have HA1:=Lib.hid (HN0.out.below hb1 (by simp))
 have HB1:=Lib.hid (((Below.refl _ _).alloc (Nat.le_refl _) _).trans (hb1.mono (by simp)))
 have HL1:Hid (w.heap.size < w1.heap.size):=Lib.hid (by have:=hb1.size;simp at this;exact this)
 clear hb1
 by_cases h0:E=0
 · subst h0
   have HT:=Lib.hid (tailF_ok HE.out)
   obtain ⟨g1,g2,g3,g4,g5,g6⟩:=wriE_good HE.out
   have G6:=Lib.hid g6
   have G4:=Lib.hid g4
   clear g1 g2 g3 g5 g6
   obtain ⟨c0,c1,c2,c3,c4,c5⟩:=HA1.out
   rw [show errV 0=Value.nilIface from rfl]
   go_wp2_with fail
   refine (wnum_any T R K key val N _ G6.out).mono ?_
   rintro r w2 ⟨rfl,hb2⟩
   have HA2:=Lib.hid (HA1.out.below hb2 HL1.out)
   have HB2:=Lib.hid (HB1.out.trans (hb2.mono (Nat.le_of_lt HL1.out)))
   have hp:=numB_size G6.out
   obtain ⟨P,hP⟩:∃ P,numB K N=P:=⟨_,rfl⟩
   rw [hP] at hp ⊢
   have HP:=Lib.hid hP
   clear hb2 c0 c1 c2 c3 c4 c5 hP
   obtain ⟨c0,c1,c2,c3,c4,c5⟩:=HA2.out
   cases hV:hasV K with
   | false =>
     have HR:Hid (tailB K val N=P):=Lib.hid (show _=_ by
       unfold tailB valB;rw [HP.out,hV,if_neg (by decide)]
       exact bs_ext (by rw [app_data];simp))
     go_wp2_with (go_at_call 150;refine (hasv_any K false _ hV).mono ?_;rintro r w3 ⟨rfl,rfl⟩)
     go_ret2
     rw [HT.out,HR.out]
     exact ⟨rfl,HB2.out⟩
   | true =>
     have HR:Hid (tailB K val N=P ++ spanB val):=Lib.hid (show _=_ by unfold tailB valB;rw [HP.out,hV,if_pos rfl])
     have hs:=spanB_le g4
     obtain ⟨S,hS⟩:∃ S,spanB val=S:=⟨_,rfl⟩
     rw [hS] at hs HR
     have HS:=Lib.hid hS
     clear hS
     go_wp2_with (first
       | (go_at_call 150;refine (hasv_any K true _ hV).mono ?_;rintro r w3 ⟨rfl,rfl⟩)
       | (go_at_call 93;refine (sput_ok val _ (Nat.le_trans G4.out (by decide))).mono ?_;rintro r w4 ⟨rfl,hb4⟩;have HB4:=Lib.hid (HB2.out.trans (hb4.mono HB2.out.size));clear hb4;rw [HS.out]))
     go_ret2
     rw [HT.out,HR.out]
     exact ⟨rfl,HB4.out⟩
 · have HT:=Lib.hid (tailF_bad (by rw [HE.out];exact h0))
   rw [errV_bad h0]
   go_wp2
   go_ret2
   rw [HT.out,HE.out]
   refine ⟨?_,HB1.out⟩
   show _=Ending.returned (.tuple #[.string ⟨#[]⟩,errV E])
   rw [errV_bad h0]
   rfl
end Go.Proofs.YtjkbmfpomgcblaaGreatDoor
namespace Go.Proofs.YtjkbmfpomgcblaaGreatDoor
open Go.RowKit
theorem byte_conv (K:Nat) (B:ByteArray) (hB:B=⟨#[UInt8.ofNat K]⟩) (hK:K≤255) (W:World) (b:Nat) (h:W.heap[b]? = some (.cells #[.int .u8 (K:Int)] 5 (0,0))) :
   (convert 60 9 (.slice (some ⟨b,0,none⟩) 1 1)).run Tryz.prog W=.ok (.string B) W:=by
 subst hB
 refine run_convert_bytes_back _ _ _ _ _ _ [UInt8.ofNat K] Tryz.underlying60 Tryz.underlying5 Tryz.underlying9 fun j hj=>?_
 obtain rfl:j=0:=by simp at hj;omega
 have hadd:(⟨b,0,none⟩:Addr).add 0=⟨b,0,none⟩:=rfl
 rw [hadd,cell_of_row _ _ _ _ _ _ h]
 simp
 omega
theorem byte_lit (K:Nat) (k:Int) (B:ByteArray) (hk:(K:Int)=k) (hB:B=⟨#[UInt8.ofNat K]⟩) (hK:K≤255) (W:World) (b:Nat) (h:W.heap[b]? = some (.cells #[.int .u8 k] 5 (0,0))) :
   (convert 60 9 (.slice (some ⟨b,0,none⟩) 1 1)).run Tryz.prog W=.ok (.string B) W:=by
 subst hk;exact byte_conv K B hB hK W b h
theorem undrewP {w w':World} (h:Below w.drew.heap.size w.drew w'):Below w.heap.size w w':=((Below.refl _ _).drew).trans h
end Go.Proofs.YtjkbmfpomgcblaaGreatDoor
