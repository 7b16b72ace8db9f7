import Derived.Test.YtdhognaoejiglaaGreatDoorKa16
namespace Go.Proofs.YtdhognaoejiglaaGreatDoor
open Lib (hid)
set_option maxRecDepth 100000
set_option maxHeartbeats 8000000
section
open Go.RowKit
theorem yz:liesAt Tryz.prog Tryz.prog.depth 195 (2 / Tryz.prog.cellsOf 195) 0 145 1=true:=by kernel_rfl
def cg (w:World) (B b:Nat) (l:List UInt8):Prop:=Lib.IsBuilder 195 5 B b (Lib.byteCells l) w
theorem GX (w:World) (B:Nat) (h:B≤w.heap.size):cg (w.alloc (.cells #[.pointer none,.slice none 0 0] 195)) B w.heap.size [] :=
 .inl ⟨h,.slice none 0 0,heap_alloc_new w _,World.ownsRow_nil _ _ _ _,by simp [Value.ownBlock]⟩
theorem cg.below {w w':World} {B b:Nat} {l:List UInt8} (h:cg w B b l) (hb:Below w.heap.size w w'):cg w' B b l:=by
 have hone:∀ {p:Value},Lib.BuilderAt 195 5 B b p (Lib.byteCells l) w→Lib.BuilderAt 195 5 B b p (Lib.byteCells l) w':=by
  intro p h;have hlt:=h.lt;obtain ⟨hB,v,hbk,hown,hne⟩:=h;refine ⟨hB,v,(hb.block b hlt).trans hbk,?_,hne⟩;refine World.ownsRow.kept hown (row:=none) ⟨hb.os,hb.tape,hb.output,hb.size,fun k hk _=>hb.block k hk⟩ ?_;cases hv:v.ownBlock with
  | none=>exact .inl rfl
  | some g=>exact .inr (by simp)
 rcases h with h | h
 ·exact .inl (hone h)
 ·exact .inr (hone h)
theorem cg.lt {w:World} {B b:Nat} {l:List UInt8} (h:cg w B b l):B≤b∧b<w.heap.size:=by
 rcases h with h | h
 ·exact ⟨h.1,h.lt⟩
 ·exact ⟨h.1,h.lt⟩
theorem GZ (b:Nat) (w:World) (h0:w.cell? ⟨b,0,none⟩=some (.pointer none)) (hsh:w.shape? b=some (195,2)) (hfz:w.frozen? ⟨b,0,none⟩=false) :
 Calls Tryz.prog 116 #[.pointer (some ⟨b,0,none⟩)] w fun e w'=>e=.returned (.tuple #[])∧w'=w.setCell ⟨b,0,none⟩ (.pointer (some ⟨b,0,none⟩)):=by
 obtain ⟨j,hj,hjs⟩:=Option.map_eq_some_iff.1 nk;go_enter Tryz.func116,Tryz.ntmps116
 go_wp2;rw [Lib.run_to_unsafe w ⟨b,0,none⟩ Tryz.underlying143 Tryz.underlying130 hj (by rw [hjs];decide) hsh (Nat.zero_lt_succ 1)];simp only [Result.andThen]
 rw [Oper.upon_value];go_wp2;rw [run_callFunc_extern Tryz.func151 (by kernel_rfl) (by kernel_rfl) (by kernel_rfl) (e:=Extern.AbiNoEscape.same) (by kernel_rfl)];rw [Lib.run_noEscape];simp only [Result.andThen]
 rw [Oper.upon_value];go_wp2;rw [Lib.run_from_unsafe w ⟨b,0,none⟩ Tryz.underlying130 Tryz.underlying143 hj hsh yz];simp only [Result.andThen]
 rw [Oper.upon_value];go_wp2
 go_end0
 exact ⟨rfl,rfl⟩
theorem wQ (B b:Nat) (l:List UInt8) (w:World) (h:cg w B b l) :
 Calls Tryz.prog 116 #[.pointer (some ⟨b,0,none⟩)] w fun e w'=>e=.returned (.tuple #[])∧Lib.BuilderAt 195 5 B b (.pointer (some ⟨b,0,none⟩)) (Lib.byteCells l) w'∧Below B w w'∧NonB b w w'∧w'.heap.size=w.heap.size:=by
 rcases h with h | h
 ·refine (GZ b w h.cell0 h.shape h.frozen0).mono ?_;rintro e w' ⟨rfl,rfl⟩;exact ⟨rfl,h.used _,(Below.refl B w).setCell (p:=⟨b,0,none⟩) h.1 _,fun k _ hk _=>heap_setCell_other _ _ _ _ (fun e=>hk e),by simp⟩
 ·refine (nG b w h.cell0).mono ?_;rintro e w' ⟨rfl,rfl⟩;exact ⟨rfl,h,Below.refl B _,fun k _ _ _=>rfl,rfl⟩
theorem wP (B b:Nat) (l:List UInt8) (s:ByteArray) (w:World) (h:cg w B b l) (hlen:l.length+s.size≤140737488355328) (hBw:B≤w.heap.size) :
 Calls Tryz.prog 88 #[.pointer (some ⟨b,0,none⟩),.string s] w fun e w'=>e=.returned (.tuple #[.int .i64 s.size,.nilIface])∧cg w' B b (l++s.data.toList)∧Below B w w'∧NonB b w w':=by
 obtain ⟨i0,hi,hz0,hz1,hz2⟩:=info_parts gX;have hbl:(Lib.byteCells l).length=l.length:=by simp [Lib.byteCells]
 go_enter Tryz.func88,Tryz.ntmps88
 go_wp2_with fail
 refine (wQ B b l _ h).mono ?_;rintro e w1 ⟨rfl,h1,hb1,hn1,hs1⟩;have HN1:=hid hn1;have HS1:=hid hs1;obtain ⟨hB,v,hbk,hown,hne⟩:=h1;have c0:w1.cell? ⟨b,0,none⟩=some (.pointer (some ⟨b,0,none⟩)):=by rw [Lib.cell_of_heap hbk];rfl
 have c1:w1.cell? ⟨b,1,none⟩=some v:=by rw [Lib.cell_of_heap hbk];rfl
 clear hn1 hs1;go_wp2_with (at_builtin;refine Lib.wpList_append_own_string _ rfl _ _ 142 9 rfl B 5 i0 Tryz.underlying142 Tryz.underlying9 hi hz0 hz1 hz2 _ _ _ rfl hown s rfl ?c3 ?c4 ?c5 ?_)
 case c3=>rw [hbl];unfold maxLen;omega
 case c4=>rw [hbl];omega
 case c5=>have:=hb1.size;omega
 intro v' w2 hown' hgrow _;have hlt:b<w1.heap.size:=by
  rcases Nat.lt_or_ge b w1.heap.size with h' | h'
  ·exact h'
  ·simp [Array.getElem?_eq_none h'] at hbk
 have hb2:w2.heap[b]? = some (.cells #[.pointer (some ⟨b,0,none⟩),v] 195 (0,0)):=by
  rw [hgrow.block b hlt (fun e=>hne e.symm)];exact hbk
 have d0:w2.cell? ⟨b,0,none⟩=some (.pointer (some ⟨b,0,none⟩)):=by rw [Lib.cell_of_heap hb2];rfl
 have d1:w2.cell? ⟨b,1,none⟩=some v:=by rw [Lib.cell_of_heap hb2];rfl
 have f1:w2.frozen? ⟨b,1,none⟩=false:=Lib.frozen_of_heap hb2 1;obtain ⟨ao,n',cap,rfl⟩:∃ ao n' cap,v'=.slice ao n' cap:=by
  rcases hown'.2 with ⟨hv,_⟩ | ⟨g,cap,cur,hv,_⟩
  ·exact ⟨_,_,_,hv⟩
  ·exact ⟨_,_,_,hv⟩
 have HO:Hid (w2.ownsRow B 5 1 (.slice ao n' cap) (Lib.byteCells (l++s.data.toList)).length (Lib.byteCells (l++s.data.toList))):=by
  have h:w2.ownsRow B 5 1 (.slice ao n' cap) (Lib.byteCells (l++s.data.toList)).length (Lib.byteCells (l++s.data.toList)):=by
   have e:Lib.byteCells (l++s.data.toList)=Lib.byteCells l++Lib.strCells s:=by simp [Lib.byteCells,Lib.strCells]
   rw [e,List.length_append,Lib.strCells_length,hbl];exact hown'
  exact h
 have HNB:Hid (NonB b w1 w2):=hid (show NonB b w1 w2 from fun k hk hkb hu=>hgrow.block k hk (fun e=>by
  rcases hown.2 with ⟨hv,_⟩ | ⟨g,cap',cur,hv,_,hh,_⟩
  ·rw [hv] at e;cases e
  ·rw [hv] at e;have:k=g:=by simpa [Value.ownBlock] using e
   subst this;exact hu _ _ hh))
 have HSZ:Hid (w1.heap.size≤w2.heap.size):=hid hgrow.size;clear hown';go_wp2;go_ret2;refine ⟨rfl,.inr ?_,?_,?_⟩
 ·exact Lib.BuilderAt.put (T:=195) (e:=5) hB hb2 HO.out (by decide)
 ·exact (hb1.grown hgrow (by have:=hb1.size;omega) (fun k hk=>(hown.lt k hk).1)).setCell (p:=⟨b,1,none⟩) hB _
 ·refine ((HN1.out.trans HNB.out (by rw [HS1.out];exact Nat.le_refl _)).trans (fun k _ hk _=>heap_setCell_other _ _ _ _ (fun e=>hk e)) ?_);rw [←HS1.out];exact HSZ.out
theorem GW (B b:Nat) (l:List UInt8) (c:UInt8) (w:World) (h:cg w B b l) (hlen:l.length+1≤140737488355328) (hBw:B≤w.heap.size) :
 Calls Tryz.prog 145 #[.pointer (some ⟨b,0,none⟩),.int .u8 (c.toNat:Int)] w fun e w'=>e=.returned .nilIface∧cg w' B b (l++[c])∧Below B w w'∧NonB b w w':=by
 obtain ⟨i0,hi,hz0,hz1,hz2⟩:=info_parts gX;have hbl:(Lib.byteCells l).length=l.length:=by simp [Lib.byteCells]
 go_enter Tryz.func145,Tryz.ntmps145
 go_wp2_with fail
 refine (wQ B b l _ h).mono ?_;rintro e w1 ⟨rfl,h1,hb1,hn1,hs1⟩;have HN1:=hid hn1;have HS1:=hid hs1;obtain ⟨hB,v,hbk,hown,hne⟩:=h1;have c0:w1.cell? ⟨b,0,none⟩=some (.pointer (some ⟨b,0,none⟩)):=by rw [Lib.cell_of_heap hbk];rfl
 have c1:w1.cell? ⟨b,1,none⟩=some v:=by rw [Lib.cell_of_heap hbk];rfl
 clear hn1 hs1;have hownB:bW w1 B v l:=by have h:=hown;rw [hbl] at h;exact h
 go_wp2_with (at_builtin;refine mM rfl _ _ rfl B v l rfl (hownB.alloc _) ⟨w1.heap.size,0,none⟩ 1 rfl (c.toNat:Int) c ?c3 rfl ?c4 ?c5 ?_)
 case c3=>simp [Addr.add]
 case c4=>omega
 case c5=>have:=hb1.size;simp;omega
 intro v' w2 hown' hgrow0 _;have hgrow:w1.grownBy w2 v.ownBlock:=⟨hgrow0.os,hgrow0.tape,hgrow0.output,Nat.le_trans (by simp) hgrow0.size,fun k hk hne=>(hgrow0.block k (by simp;omega) hne).trans (Below.heap_alloc _ _ _ hk)⟩;have hlt:b<w1.heap.size:=by
  rcases Nat.lt_or_ge b w1.heap.size with h' | h'
  ·exact h'
  ·simp [Array.getElem?_eq_none h'] at hbk
 have hb2:w2.heap[b]? = some (.cells #[.pointer (some ⟨b,0,none⟩),v] 195 (0,0)):=by
  rw [hgrow.block b hlt (fun e=>hne e.symm)];exact hbk
 have d0:w2.cell? ⟨b,0,none⟩=some (.pointer (some ⟨b,0,none⟩)):=by rw [Lib.cell_of_heap hb2];rfl
 have d1:w2.cell? ⟨b,1,none⟩=some v:=by rw [Lib.cell_of_heap hb2];rfl
 have f1:w2.frozen? ⟨b,1,none⟩=false:=Lib.frozen_of_heap hb2 1;obtain ⟨ao,n',cap,rfl⟩:∃ ao n' cap,v'=.slice ao n' cap:=by
  rcases hown'.2 with ⟨hv,_⟩ | ⟨g,cap,cur,hv,_⟩
  ·exact ⟨_,_,_,hv⟩
  ·exact ⟨_,_,_,hv⟩
 have HO:Hid (w2.ownsRow B 5 1 (.slice ao n' cap) (Lib.byteCells (l++[c])).length (Lib.byteCells (l++[c]))):=by
  have h:w2.ownsRow B 5 1 (.slice ao n' cap) (Lib.byteCells (l++[c])).length (Lib.byteCells (l++[c])):=by
   have e:(Lib.byteCells (l++[c])).length=(l++[c]).length:=by simp [Lib.byteCells]
   rw [e];exact hown'
  exact h
 have HNB:Hid (NonB b w1 w2):=hid (show NonB b w1 w2 from fun k hk hkb hu=>hgrow.block k hk (fun e=>by
  rcases hown.2 with ⟨hv,_⟩ | ⟨g,cap',cur,hv,_,hh,_⟩
  ·rw [hv] at e;cases e
  ·rw [hv] at e;have:k=g:=by simpa [Value.ownBlock] using e
   subst this;exact hu _ _ hh))
 have HSZ:Hid (w1.heap.size≤w2.heap.size):=hid hgrow.size;clear hown' hownB;go_wp2;go_ret;refine ⟨rfl,.inr ?_,?_,?_⟩
 ·exact Lib.BuilderAt.put (T:=195) (e:=5) hB hb2 HO.out (by decide)
 ·exact (hb1.grown hgrow (by have:=hb1.size;omega) (fun k hk=>(hown.lt k hk).1)).setCell (p:=⟨b,1,none⟩) hB _
 ·refine ((HN1.out.trans HNB.out (by rw [HS1.out];exact Nat.le_refl _)).trans (fun k _ hk _=>heap_setCell_other _ _ _ _ (fun e=>hk e)) ?_);rw [←HS1.out];exact HSZ.out
theorem wO (B b:Nat) (l:List UInt8) (w:World) (h:cg w B b l) :
 Calls Tryz.prog 147 #[.pointer (some ⟨b,0,none⟩)] w fun e w'=>e=.returned (.int .i64 (l.length:Int))∧w=w':=by
 have hbl:(Lib.byteCells l).length=l.length:=by simp [Lib.byteCells]
 obtain ⟨p,hB,v,hbk,hown,hne⟩:∃ p,Lib.BuilderAt 195 5 B b p (Lib.byteCells l) w:=by
  rcases h with h | h
  ·exact ⟨_,h⟩
  ·exact ⟨_,h⟩
 have c1:w.cell? ⟨b,1,none⟩=some v:=by rw [Lib.cell_of_heap hbk];rfl
 obtain ⟨a,cp,rfl⟩:∃ a cp,v=.slice a l.length cp:=by
  rcases hown.2 with ⟨hv,h0⟩ | ⟨g,cap,cur,hv,_⟩
  ·exact ⟨none,0,by rw [hv];rw [hbl] at h0;rw [h0]⟩
  ·exact ⟨_,_,by rw [hv,hbl]⟩
 generalize l.length=n at c1 ⊢;clear hown hbk hne hbl h;go_enter Tryz.func147,Tryz.ntmps147
 go_wp2;go_ret;exact ⟨rfl,rfl⟩
theorem GY (B b:Nat) (l:List UInt8) (w:World) (h:cg w B b l) (h0:l≠[]) :
 Calls Tryz.prog 93 #[.pointer (some ⟨b,0,none⟩)] w fun e w'=>e=.returned (.string ⟨l.toArray⟩)∧Below B w w':=by
 have hbl:(Lib.byteCells l).length=l.length:=by simp [Lib.byteCells]
 obtain ⟨p,hB,v,hbk,hown,hne⟩:∃ p,Lib.BuilderAt 195 5 B b p (Lib.byteCells l) w:=by
  rcases h with h | h
  ·exact ⟨_,h⟩
  ·exact ⟨_,h⟩
 rw [hbl] at hown;have hpos:0<l.length:=List.length_pos_iff.2 h0;obtain ⟨g,cap,cur,hv,hbg,hg,hcl,hcm,hcs⟩:∃ g cap cur,v=.slice (some ⟨g,0,none⟩) l.length cap∧B≤g∧w.heap[g]? = some (.cells cur 5 (0,0))∧l.length≤cap∧cap≤maxLen∧cur.size=cap * 1:=by
  rcases hown.2 with ⟨hv,hn⟩ | ⟨g,cap,cur,hv,hb,hh,hc,hm,hs,_⟩
  ·exact absurd hn (by omega)
  ·exact ⟨g,cap,cur,hv,hb,hh,hc,hm,hs⟩
 subst hv;have c1:w.drew.cell? ⟨b,1,none⟩=some (.slice (some ⟨g,0,none⟩) l.length cap):=by
  have:w.drew.heap[b]? = some (.cells #[p,.slice (some ⟨g,0,none⟩) l.length cap] 195 (0,0)):=hbk;rw [Lib.cell_of_heap this];rfl
 have hSD:(Builtin.unsafeSliceData_ #[142] 178 #[.slice (some ⟨g,0,none⟩) l.length cap]).run Tryz.prog w.drew=.ok (.pointer (some ⟨g,0,none⟩)) w.drew :=
  Lib.run_unsafeSliceData_row _ _ _ _ _ _ (by omega)
 have hUS:(Builtin.unsafeString_ #[178,3] 9 #[.pointer (some ⟨g,0,none⟩),.int .i64 l.length]).run Tryz.prog w.drew=.ok (.string ⟨l.toArray⟩) (w.drew.freeze ⟨g,0,none⟩ l.length):=by
  refine Lib.run_unsafeString_row w.drew 178 3 9 5 Tryz.underlying178 (by kernel_rfl) g cur.size (by have hg':w.drew.heap[g]? = some (.cells cur 5 (0,0)):=hg;simp [World.shape?,hg']) l h0 (by omega) (by unfold maxLen at hcm;omega) ?_;intro j x hx;have:=hown.cells (g:=g) rfl j (.int .u8 x.toNat) (by simp [Lib.byteCells,hx]);exact this
 clear hown hcl hcm hpos hcs;go_enter Tryz.func93,Tryz.ntmps93
 go_wp2;go_region
 all_goals (go_wp2;go_ret;exact ⟨rfl,Lib.below_freeze (Below.drew (Below.refl B w)) (p:=⟨g,0,none⟩) hbg _⟩)
end
section
def dn:Int→List Ent→Prop
 | _,[]=>True
 | r,e::t=>e.rep=r∧dn (r+1) t
theorem rg {l:List Ent} {e:Ent}:∀ {r:Int},dn r l→e.rep=r+l.length→dn r (l++[e]):=by
 induction l with
 | nil=>intro r _ h;exact ⟨by simpa using h,trivial⟩
 | cons d t ih=>intro r h he;exact ⟨h.1,ih h.2 (by rw [he,List.length_cons];omega)⟩
theorem zk {l:List Ent} {r:Int} (h:dn r l) (h0:l≠[]):(l.headD ⟨0,0⟩).rep=r:=by
 cases l with
 | nil=>exact absurd rfl h0
 | cons e t=>exact h.1
theorem iU {l:List Ent}:∀ {r:Int},dn r l→l≠[]→(l.getLastD ⟨0,0⟩).rep=r+l.length-1:=by
 induction l with
 | nil=>intro r _ h0;exact absurd rfl h0
 | cons e t ih =>
  intro r h _;cases t with
  | nil=>have:=h.1;simp;omega
  | cons d u =>
   have h3:=ih h.2 (by simp);rw [List.getLastD_cons] at h3 ⊢;rw [List.getLastD_cons];simp only [List.length_cons] at h3 ⊢
   omega
def eT:Int→List (List Ent)→Prop
 | _,[]=>True
 | least,run::rs=>run≠[]∧least≤(run.headD ⟨0,0⟩).rep∧dn (run.headD ⟨0,0⟩).rep run∧eT ((run.getLastD ⟨0,0⟩).rep+2) rs
def cutA:List Ent→List Ent→List (List Ent)
 | _,[]=>[]
 | cur,[e]=>[cur++[e]]
 | cur,e::d::r=>if e.rep+1<d.rep then (cur++[e])::cutA [] (d::r) else cutA (cur++[e]) (d::r)
def aX (l:List Ent):List (List Ent):=cutA [] l
theorem rj (cur:List Ent) (e:Ent):cutA cur [e]=[cur++[e]]:=rfl
theorem nH {cur r:List Ent} {e d:Ent} (h:e.rep+1<d.rep):cutA cur (e::d::r)=(cur++[e])::cutA [] (d::r):=by rw [cutA,if_pos h]
theorem nI {cur r:List Ent} {e d:Ent} (h:¬ e.rep+1<d.rep):cutA cur (e::d::r)=cutA (cur++[e]) (d::r):=by rw [cutA,if_neg h]
theorem lu {l:List Ent} (m:List Ent) (h:l≠[]) (d:Ent):(l++m).headD d=l.headD d:=by
 cases l with
 | nil=>exact absurd rfl h
 | cons e t=>rfl
theorem s5 (l:List Ent) (e d:Ent):(l++[e]).getLastD d=e:=by
 simp
theorem zv (r:List Ent):∀ (cur:List Ent) (e:Ent) (least last:Int),okV last (e::r)→(cur=[]→least≤e.rep)→(cur≠[]→least≤(cur.headD ⟨0,0⟩).rep∧dn (cur.headD ⟨0,0⟩).rep cur∧e.rep=(cur.headD ⟨0,0⟩).rep+cur.length) →
 eT least (cutA cur (e::r))∧(cutA cur (e::r)).flatten=cur++e::r:=by
 induction r with
 | nil =>
  intro cur e least last h h0 h1;rw [rj];refine ⟨⟨by simp,?_,?_,trivial⟩,by simp⟩
  ·by_cases hc:cur=[]
   ·subst hc;exact h0 rfl
   ·rw [lu _ hc];exact (h1 hc).1
  ·by_cases hc:cur=[]
   ·subst hc;exact ⟨rfl,trivial⟩
   ·rw [lu _ hc];exact rg (h1 hc).2.1 (h1 hc).2.2
 | cons d r ih =>
  intro cur e least last h h0 h1;have hd:=h.2.1;rw [gF] at hd;have hcons:dn ((cur++[e]).headD ⟨0,0⟩).rep (cur++[e]):=by
   by_cases hc:cur=[]
   ·subst hc;exact ⟨rfl,trivial⟩
   ·rw [lu _ hc];exact rg (h1 hc).2.1 (h1 hc).2.2
  have hlow:least≤((cur++[e]).headD ⟨0,0⟩).rep:=by
   by_cases hc:cur=[]
   ·subst hc;exact h0 rfl
   ·rw [lu _ hc];exact (h1 hc).1
  by_cases hg:e.rep+1<d.rep
  ·rw [nH hg];obtain ⟨i1,i2⟩:=ih [] d (e.rep+2) e.rep h.2 (fun _=>by omega) (fun hn=>absurd rfl hn);refine ⟨⟨by simp,hlow,hcons,?_⟩,?_⟩
   ·rw [s5];exact i1
   ·rw [List.flatten_cons,i2];simp
  ·rw [nI hg];obtain ⟨i1,i2⟩:=ih (cur++[e]) d least e.rep h.2 (fun hn=>absurd hn (by simp)) (fun _=>⟨hlow,hcons,by
    have:=iU hcons (by simp);rw [s5] at this;omega⟩)
   exact ⟨i1,by rw [i2];simp⟩
theorem oX {l:List Ent} (h:okV (-1) l):eT 0 (aX l)∧(aX l).flatten=l:=by
 cases l with
 | nil=>exact ⟨trivial,rfl⟩
 | cons e r =>
  have:=h.1;rw [gF] at this;have h2:=zv r [] e 0 (-1) h (fun _=>by omega) (fun hn=>absurd rfl hn);exact h2
theorem zw (run:List Ent):∀ (cur:List Ent) (r:Int) (rest:List Ent),dn r run→run≠[]→(∀ e t,rest=e::t→(run.getLastD ⟨0,0⟩).rep+1<e.rep) →
 cutA cur (run++rest)=(cur++run)::cutA [] rest:=by
 induction run with
 | nil=>intro _ _ _ _ h;exact absurd rfl h
 | cons e t ih =>
  intro cur r rest h _ hr;cases t with
  | nil =>
   cases rest with
   | nil=>rfl
   | cons d u =>
    have:=hr d u rfl;exact nH (by simpa using this)
  | cons d u =>
   have e1:=h.1;have e2:=h.2.1;show cutA cur (e::d::(u++rest))=_
   rw [nI (by omega)];have:=ih (cur++[e]) (r+1) rest h.2 (by simp) (fun x y hx=>by
    have:=hr x y hx;rw [List.getLastD_cons,List.getLastD_cons] at this;rw [List.getLastD_cons];exact this)
   rw [show d::(u++rest)=(d::u)++rest from rfl,this];simp
theorem Et {R:List (List Ent)}:∀ {least:Int},eT least R→aX R.flatten=R:=by
 induction R with
 | nil=>intro _ _;rfl
 | cons run rs ih =>
  intro least h;obtain ⟨h1,h2,h3,h4⟩:=h;unfold aX;rw [List.flatten_cons,zw run [] _ _ h3 h1]
  ·have:=ih h4;unfold aX at this;rw [this];rfl
  ·intro e t he;cases rs with
   | nil=>cases he
   | cons run2 rs2 =>
    obtain ⟨g1,g2,g3,_⟩:=h4;rw [List.flatten_cons] at he;cases run2 with
    | nil=>exact absurd rfl g1
    | cons d u =>
     simp only [List.cons_append,List.cons.injEq] at he
     obtain ⟨rfl,_⟩:=he;simp only [List.headD_cons] at g2
     omega
def ba (l:List Ent):List UInt8:=l.flatMap fun e=>putL e.time.toNat
def runB (least:Int) (run:List Ent):List UInt8:=putL ((run.headD ⟨0,0⟩).rep-least).toNat++putL (run.length-1)++ba run
def cj:Int→List (List Ent)→List UInt8
 | _,[]=>[]
 | least,run::rs=>runB least run++cj ((run.getLastD ⟨0,0⟩).rep+2) rs
def aI (l:List Ent):List UInt8:=putL (aX l).length++cj 0 (aX l)
def eA (l:List Ent):List UInt8:=if (ar l).1=0 then aI l else []
theorem pi (e:Ent) (l:List Ent):ba (e::l)=putL e.time.toNat++ba l:=by simp [ba]
theorem FO (a b:List Ent):ba (a++b)=ba a++ba b:=by simp [ba]
def tmA:Nat→List UInt8→Nat→Int→List Ent→Nat ⊕ (List Ent×Nat)
 | 0,_,used,_,acc=>.inr (acc,used)
 | k+1,s,used,r,acc =>
  if (intL s 1099511627776).2.2≠0 then .inl (intL s 1099511627776).2.2
  else tmA k (s.drop (intL s 1099511627776).2.1) (used+(intL s 1099511627776).2.1) (r+1) (acc++[⟨r,(intL s 1099511627776).1⟩])
theorem mw {k:Nat} {s:List UInt8} {used e:Nat} {r:Int} {acc:List Ent} (h:intL s 1099511627776=(0,0,e)) (he:e≠0):tmA (k+1) s used r acc=.inl e:=by
 rw [tmA,h,if_pos he]
theorem jW {k:Nat} {s:List UInt8} {used n j:Nat} {r:Int} {acc:List Ent} (h:intL s 1099511627776=(n,j,0)):tmA (k+1) s used r acc=tmA k (s.drop j) (used+j) (r+1) (acc++[⟨r,n⟩]):=by
 rw [tmA,h,if_neg (by simp)]
def getR (s:List UInt8) (used:Nat) (least:Int) (acc:List Ent):Nat ⊕ (List Ent×Nat) :=
 if (intL s 200).2.2≠0 then .inl (intL s 200).2.2
 else if (intL (s.drop (intL s 200).2.1) 16).2.2≠0 then .inl (intL (s.drop (intL s 200).2.1) 16).2.2
 else tmA ((intL (s.drop (intL s 200).2.1) 16).1+1) ((s.drop (intL s 200).2.1).drop (intL (s.drop (intL s 200).2.1) 16).2.1) (used+(intL s 200).2.1+(intL (s.drop (intL s 200).2.1) 16).2.1) (least+(intL s 200).1) acc
theorem lg {s:List UInt8} {used e:Nat} {least:Int} {acc:List Ent} (h:intL s 200=(0,0,e)) (he:e≠0):getR s used least acc=.inl e:=by
 unfold getR;rw [h,if_pos he]
theorem lh {s:List UInt8} {used e g j:Nat} {least:Int} {acc:List Ent} (h:intL s 200=(g,j,0)) (h2:intL (s.drop j) 16=(0,0,e)) (he:e≠0):getR s used least acc=.inl e:=by
 unfold getR;rw [h];simp only;rw [h2,if_neg (by simp),if_pos he]
theorem ja {s:List UInt8} {used g j c i:Nat} {least:Int} {acc:List Ent} (h:intL s 200=(g,j,0)) (h2:intL (s.drop j) 16=(c,i,0)):getR s used least acc=tmA (c+1) ((s.drop j).drop i) (used+j+i) (least+g) acc:=by
 unfold getR;rw [h];simp only;rw [h2,if_neg (by simp),if_neg (by simp)]
def rdA:Nat→List UInt8→Nat→Int→List Ent→Nat ⊕ (List Ent×Nat)
 | 0,_,used,_,acc=>.inr (acc,used)
 | k+1,s,used,least,acc=>match getR s 0 least [] with
  | .inl e=>.inl e
  | .inr (run,j)=>rdA k (s.drop j) (used+j) ((run.getLastD ⟨0,0⟩).rep+2) (acc++run)
theorem lR {k:Nat} {s:List UInt8} {used e:Nat} {least:Int} {acc:List Ent} (h:getR s 0 least []=.inl e):rdA (k+1) s used least acc=.inl e:=by rw [rdA,h]
theorem jI {k:Nat} {s:List UInt8} {used j:Nat} {least:Int} {acc run:List Ent} (h:getR s 0 least []=.inr (run,j)):rdA (k+1) s used least acc=rdA k (s.drop j) (used+j) ((run.getLastD ⟨0,0⟩).rep+2) (acc++run):=by rw [rdA,h]
def aF (s:List UInt8):Nat×Nat×List Ent :=
 if (intL s 16).2.2≠0 then ((intL s 16).2.2,0,[]) else match rdA (intL s 16).1 (s.drop (intL s 16).2.1) (intL s 16).2.1 0 [] with
  | .inl e=>(e,0,[])
  | .inr (l,n)=>if (ar l).1≠0 then ((ar l).1,0,[]) else (0,n,l)
theorem pK {s:List UInt8} {e:Nat} (h:intL s 16=(0,0,e)) (he:e≠0):aF s=(e,0,[]):=by unfold aF;rw [h,if_pos he]
theorem pJ {s:List UInt8} {k j e:Nat} (h:intL s 16=(k,j,0)) (h2:rdA k (s.drop j) j 0 []=.inl e):aF s=(e,0,[]):=by unfold aF;rw [h,if_neg (by simp)];simp only;rw [h2]
theorem pM {s:List UInt8} {k j n:Nat} {l:List Ent} (h:intL s 16=(k,j,0)) (h2:rdA k (s.drop j) j 0 []=.inr (l,n)) (h3:(ar l).1≠0):aF s=((ar l).1,0,[]):=by
 unfold aF;rw [h,if_neg (by simp)];simp only;rw [h2];simp only;rw [if_pos h3]
theorem mH {s:List UInt8} {k j n:Nat} {l:List Ent} (h:intL s 16=(k,j,0)) (h2:rdA k (s.drop j) j 0 []=.inr (l,n)) (h3:(ar l).1=0):aF s=(0,n,l):=by
 unfold aF;rw [h,if_neg (by simp)];simp only;rw [h2];simp only;rw [if_neg (by simpa using h3)]
theorem bi (l:List UInt8) (most:Int):(∃ e,intL l most=(0,0,e)∧e≠0∧(e=7∨e=4∨e=3∨e=2))∨∃ n k,intL l most=(n,k,0)∧(n:Int)≤most∧1≤k∧k≤10∧k≤l.length∧putL n=l.take k:=by
 rcases dO l with ⟨e,hg,he⟩ | ⟨n,k,hg,hn,hk1,hk2,hk3⟩
 ·have h3:=Ae l;rw [hg] at h3;simp only at h3
  exact .inl ⟨e,ji hg he,he,by omega⟩
 ·by_cases hm:most<0∨most<n
  ·exact .inl ⟨2,gY hg hm,by decide,by omega⟩
  ·exact .inr ⟨n,k,fQ hg hm,by omega,hk1,hk2,hk3,(gm hg).2.2⟩
theorem da (n:Nat) (more:List UInt8) (most:Int) (h:(n:Int)≤most) (hn:n≤1099511627776):intL (putL n++more) most=(n,(putL n).length,0) :=
 fQ (fN n more (by omega)) (by omega)
theorem FT (run:List Ent):∀ (r:Int) (more:List UInt8) (used:Nat) (acc:List Ent),dn r run→(∀ e∈run,0≤e.time∧e.time≤1099511627776) →
 tmA run.length (ba run++more) used r acc=.inr (acc++run,used+(ba run).length):=by
 induction run with
 | nil=>intro r more used acc _ _;simp [tmA,ba]
 | cons e t ih =>
  intro r more used acc h hb;have hb1:=hb e List.mem_cons_self;rw [pi,List.length_cons,List.append_assoc,jW (da e.time.toNat _ _ (by omega) (by omega)),List.drop_left,ih _ _ _ _ h.2 (fun x hx=>hb x (List.mem_cons_of_mem _ hx))];have e1:(⟨r,(e.time.toNat:Nat)⟩:Ent)=e:=by
   have:=h.1;cases e;simp only at this hb1 ⊢;congr 1 <;> omega
  rw [e1,List.length_append];simp;omega
theorem Ag {run:List Ent} {least:Int} (more:List UInt8) (used:Nat) (acc:List Ent) (h0:run≠[]) (h1:least≤(run.headD ⟨0,0⟩).rep) (h2:dn (run.headD ⟨0,0⟩).rep run) (hg:(run.headD ⟨0,0⟩).rep-least≤200) (hl:run.length≤17)
 (hb:∀ e∈run,0≤e.time∧e.time≤1099511627776):getR (runB least run++more) used least acc=.inr (acc++run,used+(runB least run).length):=by
 have hlen:0<run.length:=List.length_pos_iff.2 h0;unfold runB;rw [List.append_assoc,List.append_assoc];have e1:=da ((run.headD ⟨0,0⟩).rep-least).toNat (putL (run.length-1)++(ba run++more)) 200 (by omega) (by omega);rw [ja e1 (c:=run.length-1) (i:=(putL (run.length-1)).length) (by rw [List.drop_left];exact da _ _ _ (by omega) (by omega)),List.drop_left,List.drop_left];rw [show run.length-1+1=run.length by omega,show least+((((run.headD ⟨0,0⟩).rep-least).toNat:Nat):Int)=(run.headD ⟨0,0⟩).rep by omega,FT run _ _ _ _ h2 hb];simp only [List.length_append]
 congr 2;omega
theorem DY (R:List (List Ent)):∀ (least:Int) (more:List UInt8) (used:Nat) (acc:List Ent),eT least R→0≤least→(∀ run∈R,run.length≤17∧∀ e∈run,0≤e.rep∧e.rep≤200∧0≤e.time∧e.time≤1099511627776) →
 rdA R.length (cj least R++more) used least acc=.inr (acc++R.flatten,used+(cj least R).length):=by
 induction R with
 | nil=>intro least more used acc _ _ _;simp [rdA,cj]
 | cons run rs ih =>
  intro least more used acc h hl0 hb;obtain ⟨h1,h2,h3,h4⟩:=h;obtain ⟨hl,he⟩:=hb run List.mem_cons_self;have hlast:=iU h3 h1;have hlen:0<run.length:=List.length_pos_iff.2 h1;have hhead:(run.headD ⟨0,0⟩).rep≤200:=by
   cases run with
   | nil=>exact absurd rfl h1
   | cons e t=>exact (he e List.mem_cons_self).2.1
  rw [cj,List.append_assoc,List.length_cons,jI (Ag _ 0 [] h1 h2 h3 (by omega) hl (fun e hm=>(he e hm).2.2)),List.nil_append,Nat.zero_add,List.drop_left,
   ih _ _ _ _ h4 (by omega) (fun r hr=>hb r (List.mem_cons_of_mem _ hr))]
  rw [List.flatten_cons,List.length_append,List.append_assoc]
  congr 2;omega
theorem wL {l:List Ent} (h:az l) (more:List UInt8):aF (aI l++more)=(0,(aI l).length,l):=by
 obtain ⟨h1,h2⟩:=oX h.2;have hall:∀ run∈aX l,run.length≤17∧∀ e∈run,0≤e.rep∧e.rep≤200∧0≤e.time∧e.time≤1099511627776:=by
  intro run hr;have hsub:∀ e∈run,e∈l:=fun e he=>by rw [←h2];exact List.mem_flatten.2 ⟨run,hr,he⟩
  have hle:run.length≤l.length:=by rw [←h2];exact (List.sublist_flatten_of_mem hr).length_le
  refine ⟨by have:=h.1;omega,fun e he=>?_⟩;have:=bc h.2 e (hsub e he);omega
 have hnum:(aX l).length≤l.length:=by
  have:∀ (R:List (List Ent)) (least:Int),eT least R→R.length≤R.flatten.length:=by
   intro R
   induction R with
   | nil=>intro _ _;exact Nat.le_refl _
   | cons run rs ih =>
    intro least hR;have:=ih _ hR.2.2.2;have h3:0<run.length:=List.length_pos_iff.2 hR.1;rw [List.flatten_cons,List.length_append,List.length_cons];omega
  have h4:=this _ _ h1;rw [h2] at h4;exact h4
 have hl:=h.1;unfold aI;rw [List.append_assoc];have e1:=da (aX l).length (cj 0 (aX l)++more) 16 (by omega) (by omega);have e2:=DY (aX l) 0 more (putL (aX l).length).length [] h1 (Int.le_refl _) hall;rw [List.nil_append,h2] at e2;rw [mH e1 (by rw [List.drop_left];exact e2) ((br l).2 h),List.length_append]
theorem FS (k:Nat):∀ (s:List UInt8) (used:Nat) (r:Int) (acc l:List Ent) (n:Nat),tmA k s used r acc=.inr (l,n) →
 ∃ run,l=acc++run∧run.length=k∧dn r run∧used≤n∧n≤used+s.length∧ba run=s.take (n-used)∧∀ e∈run,0≤e.time∧e.time≤1099511627776:=by
 induction k with
 | zero =>
  intro s used r acc l n h;rw [tmA] at h;injection h with h
  injection h with h1 h2
  subst h1;subst h2;exact ⟨[],by simp,rfl,trivial,Nat.le_refl _,by omega,by simp [ba],fun e h=>by cases h⟩
 | succ k ih =>
  intro s used r acc l n h;rcases bi s 1099511627776 with ⟨e,hi,he,_⟩ | ⟨t,j,hi,ht,hj1,hj2,hj3,hp⟩
  ·rw [mw hi he] at h;cases h
  ·rw [jW hi] at h;obtain ⟨run,rfl,h2,h3,h4,h5,h6,h7⟩:=ih _ _ _ _ _ _ h;rw [List.length_drop] at h5;refine ⟨⟨r,t⟩::run,by simp,by simp [h2],⟨rfl,h3⟩,by omega,by omega,?_,?_⟩
   ·rw [pi,h6];simp only [Int.toNat_natCast]
    rw [hp,←List.take_add,show j+(n-(used+j))=n-used by omega]
   ·intro e he;rcases List.mem_cons.1 he with rfl | he
    ·simp only;omega
    ·exact h7 e he
theorem s7 {s:List UInt8} {used n:Nat} {least:Int} {acc l:List Ent} (h:getR s used least acc=.inr (l,n)) :
 ∃ run,l=acc++run∧run≠[]∧run.length≤17∧least≤(run.headD ⟨0,0⟩).rep∧(run.headD ⟨0,0⟩).rep≤least+200∧dn (run.headD ⟨0,0⟩).rep run∧used≤n∧n≤used+s.length∧runB least run=s.take (n-used)∧∀ e∈run,0≤e.time∧e.time≤1099511627776:=by
 rcases bi s 200 with ⟨e,hi,he,_⟩ | ⟨g,j,hi,hg,hj1,hj2,hj3,hp⟩
 ·rw [lg hi he] at h;cases h
 ·rcases bi (s.drop j) 16 with ⟨e,hi2,he,_⟩ | ⟨c,i,hi2,hc,hi1,hi3,hi4,hp2⟩
  ·rw [lh hi hi2 he] at h;cases h
  ·rw [ja hi hi2] at h;obtain ⟨run,rfl,h2,h3,h4,h5,h6,h7⟩:=FS _ _ _ _ _ _ _ h;have hne:run≠[]:=by intro e;rw [e] at h2;simp at h2
   have hh:=zk h3 hne;rw [List.length_drop] at hi4;rw [List.length_drop,List.length_drop] at h5;refine ⟨run,rfl,hne,by omega,by omega,by omega,by rw [hh];exact h3,by omega,by omega,?_,h7⟩;unfold runB;rw [hh,h6,show (least+(g:Int)-least).toNat=g by omega,show run.length-1=c by omega,hp,hp2,←List.take_add,List.drop_drop,←List.take_add]
   congr 1;omega
theorem DX (k:Nat):∀ (s:List UInt8) (used:Nat) (least:Int) (acc l:List Ent) (n:Nat),rdA k s used least acc=.inr (l,n) →
 ∃ R,l=acc++R.flatten∧R.length=k∧eT least R∧used≤n∧n≤used+s.length∧cj least R=s.take (n-used):=by
 induction k with
 | zero =>
  intro s used least acc l n h;rw [rdA] at h;injection h with h
  injection h with h1 h2
  subst h1;subst h2;exact ⟨[],by simp,rfl,trivial,Nat.le_refl _,by omega,by simp [cj]⟩
 | succ k ih =>
  intro s used least acc l n h
  match hg:getR s 0 least [] with
  | .inl e=>rw [lR hg] at h;cases h
  | .inr (run,j) =>
   rw [jI hg] at h;obtain ⟨run',hr,g1,_,g3,_,g4,g5,g6,g7,g8⟩:=s7 hg;rw [List.nil_append] at hr;subst hr;obtain ⟨R,rfl,h2,h3,h4,h5,h6⟩:=ih _ _ _ _ _ _ h;rw [List.length_drop] at h5;refine ⟨run::R,by simp,by simp [h2],⟨g1,g3,g4,h3⟩,by omega,by omega,?_⟩;rw [cj,g7,h6,Nat.sub_zero,←List.take_add]
   congr 1;omega
theorem mJ {s:List UInt8} {n:Nat} {l:List Ent} (h:aF s=(0,n,l)):az l∧1≤n∧n≤s.length∧aI l=s.take n:=by
 rcases bi s 16 with ⟨e,hi,he,_⟩ | ⟨k,j,hi,hk,hj1,hj2,hj3,hp⟩
 ·rw [pK hi he] at h;simp only [Prod.mk.injEq] at h
  exact absurd h.1 he
 ·match hr:rdA k (s.drop j) j 0 [] with
  | .inl e =>
   rw [pJ hi hr] at h;simp only [Prod.mk.injEq] at h
   obtain ⟨rfl,_⟩:=h;exact absurd hr (by
    have hgr:∀ (s:List UInt8) (least:Int),getR s 0 least []≠.inl 0:=by
     have htm:∀ (k:Nat) (s:List UInt8) (used:Nat) (r:Int) (acc:List Ent),tmA k s used r acc≠.inl 0:=by
      intro k
      induction k with
      | zero=>intro s used r acc h;cases h
      | succ k ih =>
       intro s used r acc h;rcases bi s 1099511627776 with ⟨e,hi,he,_⟩ | ⟨t,j,hi,_⟩
       ·rw [mw hi he] at h;injection h with h;exact he h
       ·rw [jW hi] at h;exact ih _ _ _ _ h
     intro s least h;rcases bi s 200 with ⟨e,hi,he,_⟩ | ⟨g,j,hi,_⟩
     ·rw [lg hi he] at h;injection h with h;exact he h
     ·rcases bi (s.drop j) 16 with ⟨e,hi2,he,_⟩ | ⟨c,i,hi2,_⟩
      ·rw [lh hi hi2 he] at h;injection h with h;exact he h
      ·rw [ja hi hi2] at h;exact htm _ _ _ _ _ h
    have:∀ (k:Nat) (s:List UInt8) (used:Nat) (least:Int) (acc:List Ent),rdA k s used least acc≠.inl 0:=by
     intro k
     induction k with
     | zero=>intro s used least acc h;cases h
     | succ k ih =>
      intro s used least acc h
      match hg:getR s 0 least [] with
      | .inl e=>rw [lR hg] at h;injection h with h;subst h;exact hgr _ _ hg
      | .inr (run,j)=>rw [jI hg] at h;exact ih _ _ _ _ h
    exact this _ _ _ _ _)
  | .inr (m,i) =>
   by_cases hw:(ar m).1=0
   ·rw [mH hi hr hw] at h;simp only [Prod.mk.injEq,true_and] at h
    obtain ⟨rfl,rfl⟩:=h;obtain ⟨R,hl,h2,h3,h4,h5,h6⟩:=DX _ _ _ _ _ _ _ hr;rw [List.nil_append] at hl;rw [List.length_drop] at h5;refine ⟨(br m).1 hw,by omega,by omega,?_⟩;have e1:=Et h3;rw [←hl] at e1;unfold aI;rw [e1,h2,h6,hp,←List.take_add]
    congr 1;omega
   ·rw [pM hi hr hw] at h;simp only [Prod.mk.injEq] at h
    exact absurd h.1 hw
end
section
open Go.RowKit
def cm (l:List UInt8):List UInt8:=putL l.length++l
def dX (s:ByteArray):ByteArray:=⟨(putL s.size).toArray⟩++s
theorem ml (s:ByteArray):(dX s).data.toList=cm s.data.toList:=by unfold dX cm;rw [gM,←aj]
theorem mn (s:ByteArray):(dX s).size=(putL s.size).length+s.size:=by unfold dX;rw [qj,cJ]
def getS (l:List UInt8):List UInt8×Nat×Nat :=
 if (getL l).2.2≠0 then ([],0,(getL l).2.2) else if 2000<(getL l).1 then ([],0,4) else if l.length<(getL l).2.1+(getL l).1 then ([],0,7)
 else ((l.drop (getL l).2.1).take (getL l).1,(getL l).2.1+(getL l).1,0)
theorem jb {l:List UInt8} {e:Nat} (h:getL l=(0,0,e)) (he:e≠0):getS l=([],0,e):=by
 unfold getS;rw [h];rw [if_pos (by exact he)]
theorem jc {l:List UInt8} {n k:Nat} (h:getL l=(n,k,0)) (hn:2000<n):getS l=([],0,4):=by
 unfold getS;rw [h];rw [if_neg (by simp),if_pos (by exact hn)]
theorem jd {l:List UInt8} {n k:Nat} (h:getL l=(n,k,0)) (hn:¬ 2000<n) (hl:l.length<k+n):getS l=([],0,7):=by
 unfold getS;rw [h];rw [if_neg (by simp),if_neg (by exact hn),if_pos (by exact hl)]
theorem gS {l:List UInt8} {n k:Nat} (h:getL l=(n,k,0)) (hn:¬ 2000<n) (hl:¬ l.length<k+n):getS l=((l.drop k).take n,k+n,0):=by
 unfold getS;rw [h];rw [if_neg (by simp),if_neg (by exact hn),if_neg (by exact hl)]
def dY (r:List UInt8×Nat×Nat):Value:=.tuple #[.string ⟨r.1.toArray⟩,.int .i64 r.2.1,errV r.2.2]
theorem qZ (s:ByteArray) (w:World) (hs:s.size≤281474976710656) :
 Calls Tryz.prog 74 #[.string s] w fun e w'=>e=.returned (.string s)∧Below w.heap.size w w':=by
 go_enter Tryz.func74,Tryz.ntmps74
 go_wp2_with fail
 refine (Tryz.stringslite_Clone s _ hs).mono ?_;rintro r w1 ⟨rfl,hb⟩;have HB:=hid hb;clear hb;go_wp2;go_ret;exact ⟨rfl,HB.out⟩
theorem pa (s:ByteArray) (w:World) (hs:s.size≤2000) :
 Calls Tryz.prog 117 #[.string s] w fun r w'=>r=.returned (.tuple #[.string (dX s),.nilIface])∧Below w.heap.size w w':=by
 have hl:=aL (n:=s.size) (by omega);have HP:Hid (dX s=⟨(putL s.size).toArray⟩++s):=rfl;go_enter Tryz.func117,Tryz.ntmps117
 go_wp2_with (go_at_call 115;refine (lP s.size _ (by omega)).mono ?_;rintro r w1 ⟨rfl,hb1⟩)
 go_ret2;exact ⟨by rw [HP.out];rfl,by assumption⟩
theorem me (s:ByteArray) (w:World) (hs:s.size≤140737488351232) :
 Calls Tryz.prog 197 #[.string s] w fun r w'=>r=.returned (dY (getS s.data.toList))∧Below w.heap.size w w':=by
 have hs2:s.size≤maxLen:=by unfold maxLen;omega
 rcases dO s.data.toList with ⟨e,hg,he⟩ | ⟨n,k,hg,hn,hk1,hk2,hk3⟩
 ·have HP : Hid (dY (getS s.data.toList) = .tuple #[.string ⟨#[]⟩, .int .i64 0, .iface 68 (.int .i64 e)]) := by
   show dY _=_
   rw [jb hg he];unfold dY errV;rw [if_neg he];rfl
  have HG:=hid hg;clear hg;rw [HP.out];go_enter Tryz.func197,Tryz.ntmps197
  go_wp2_with (go_at_call 182;refine (nZ _ _ hs2 e HG.out he).mono ?_;rintro r w' ⟨rfl,rfl⟩)
  go_ret3;exact ⟨rfl,Below.refl _ _⟩
 ·rw [←aj] at hk3;by_cases h2:2000<n
  ·have HP : Hid (dY (getS s.data.toList) = .tuple #[.string ⟨#[]⟩, .int .i64 0, .iface 68 (.int .i64 4)]) := by
    show dY _=_
    rw [jc hg h2];rfl
   have HG:=hid hg;clear hg;rw [HP.out];go_enter Tryz.func197,Tryz.ntmps197
   go_wp2_with (go_at_call 182;refine (dP _ _ hs2 n k HG.out).mono ?_;rintro r w' ⟨rfl,rfl⟩)
   go_ret3;exact ⟨rfl,Below.refl _ _⟩
  ·have h2':n≤2000:=by omega
   by_cases h3:s.size<k+n
   ·have HP : Hid (dY (getS s.data.toList) = .tuple #[.string ⟨#[]⟩, .int .i64 0, .iface 68 (.int .i64 7)]) := by
     show dY _=_
     rw [jd hg h2 (by rw [←aj];exact h3)];rfl
    have HG:=hid hg;clear hg h2;rw [HP.out];go_enter Tryz.func197,Tryz.ntmps197
    go_wp2_with (go_at_call 182;refine (dP _ _ hs2 n k HG.out).mono ?_;rintro r w' ⟨rfl,rfl⟩)
    go_ret3;exact ⟨rfl,Below.refl _ _⟩
   ·have hx:s.extract k (k+n)=⟨((s.data.toList.drop k).take n).toArray⟩:=kN (by rw [gi,List.drop_take,Nat.add_sub_cancel_left]);have hxs:(s.extract k (k+n)).size≤281474976710656:=by rw [ByteArray.size_extract];omega
    have HP:Hid (dY (getS s.data.toList)=.tuple #[.string (s.extract k (k+n)),.int .i64 ((k:Int)+n),.nilIface]):=by
     show dY _=_
     rw [gS hg h2 (by rw [←aj];exact h3),hx];rfl
    have HG:=hid hg;have h3':k+n≤s.size:=by omega
    clear hg h2 h3 hx;rw [HP.out];go_enter Tryz.func197,Tryz.ntmps197
    go_wp2_with (first | (go_at_call 182;refine (dP _ _ hs2 n k HG.out).mono ?_;rintro r w' ⟨rfl,rfl⟩) | (go_at_call 74;refine (qZ _ _ hxs).mono ?_;rintro r w1 ⟨rfl,hb1⟩))
    go_ret3;exact ⟨rfl,by assumption⟩
end
